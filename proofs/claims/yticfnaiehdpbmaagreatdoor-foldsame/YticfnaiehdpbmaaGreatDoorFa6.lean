import Derived.Test.YticfnaiehdpbmaaGreatDoorFa4
import Derived.Laws.OwnMore
import Derived.Deep.AppendLies
set_option maxRecDepth 100000
set_option maxHeartbeats 8000000
set_option linter.all false
namespace Go.Proofs.YticfnaiehdpbmaaGreatDoor
open Go.RowKit Go.Proofs.Tryz
def fS {α β:Type}{b:PR α}{c:α->Nat->PR β}{y:β}{d:Nat}(h:b.bind c=.ok y d):∃ x a,b=.ok x a/\c x a=.ok y d:=by
 cases b with
 | ok x a=>exact⟨x,a,rfl,h⟩
 | f0 e f=>cases h
 | out=>cases h
def fW (b:Int)(d:Py)(c:Int)(a:List Tr):(Tr.mk b d c a).count=1+Tr.f1 a:=by rw[Tr.count]
def PY:Tr.f1 []=0:=by rw[Tr.f1]
def PS (a:Tr)(b:List Tr):Tr.f1 (a::b)=a.count+Tr.f1 b:=by rw[Tr.f1]
def U9:∀ (b a:List Tr),Tr.f1 (b++a)=Tr.f1 b+Tr.f1 a
 | [],a=>by rw[hR,PY,ib]
 | c::b,a=>by rw[hS,PS,PS,U9 b a,lj]
def I7 (a:Tr):(VJ a).count=a.count:=by
 unfold VJ
 split
 ·rw[fW,fW]
 ·rfl
section
variable {a:List Tk}
def TA {d:Py}{b c:Nat}{x:Unit}(h:Qm a d b=.ok x c):c=b+1:=by
 unfold Qm at h
 split at h
 ·
  cases h;rfl
 ·
  cases h
def Yt {d:Py}{b c:Nat}(h:gC a b=.ok d c):c=b+1:=by
 unfold gC at h
 split at h
 ·
  cases h;rfl
 ·
  cases h
def Cb (d:Nat)(e:PR Tr):Prop:=∀ c b,e=.ok c b->c.count+3 * d<=3 * b
def Vx {d:Nat->Nat->PR Tr}{c b:Nat}(h:Cb b (d (c+1) b)):Cb b (Qw a d c b):=by
 unfold Qw
 split
 ·intro g f e;cases e
 ·exact h
def aiI {shut:Py}{begins:Nat->Bool}{part:Nat->PR Tr}(k:∀ b,Cb b (part b)):∀ e c b f d,Uu a shut begins part e c b=.ok f d->Tr.f1 f+3 * b<=Tr.f1 c+3 * d:=by
 intro e
 induction e with
 | zero=>intro c b f d h;cases h
 | succ e l=>
  intro c b f d h;unfold Uu at h
  split at h
  ·
   cases h
  ·obtain⟨n,i,m,h⟩:=fS h;have:=k b n i m
   split at h
   ·
    cases h;rw[U9,PS,PY];omega
   ·obtain⟨_,i2,g,h⟩:=fS h;have o:=TA g;have j:=l _ _ _ _ h;rw[U9,PS,PY] at j;omega
def wP {i shut:Py}{begins:Nat->Bool}{part:Nat->PR Tr}(e:∀ b,Cb b (part b)){g b c:Nat}{d:List Tr}(h:XB a i shut begins part g b=.ok d c):Tr.f1 d+3 * b+3<=3 * c:=by
 unfold XB at h;obtain⟨_,k,f,h⟩:=fS h;have j:=TA f
 split at h
 ·
  cases h;rw[PY];omega
 ·have:=aiI e _ _ _ _ _ h;rw[PY] at this;omega
structure Ia (F:Um):Prop where
 st:∀ d i,Cb i (F.st d i)
 vl:∀ d i,Cb i (F.vl d i)
 pr:∀ b d i,Cb i (F.pr b d i)
 sg:∀ d i,Cb i (F.sg d i)
variable {f:Um} (c:Ia f)
include c
def ZS {k:Nat}:∀ g b d i e,RF a f k g b d=.ok i e->Tr.f1 i+3 * d+3<=Tr.f1 b+3 * e:=by
 intro g
 induction g with
 | zero=>intro b d i e h;cases h
 | succ g j=>
  intro b d i e h;unfold RF at h;exact CA
def Y9 {j b d:Nat}{e:Tr}(h:QO a f j b=.ok e d):e.count+3 * b+5<=3 * d:=by
 unfold QO at h;obtain⟨_,l,k,h⟩:=fS h;obtain⟨n,i2,g,h⟩:=fS h;cases h;have m:=TA k;have i:=ZS c _ _ _ _ _ g;rw[PY] at i;rw[fW];omega
omit c in
theorem aq8 (b:Nat):Cb b (VU a b):=by
 intro i g h;unfold VU at h;obtain⟨_,e,d,h⟩:=fS h;cases h;have:=Yt d;rw[fW,PY];omega
omit c in
theorem QH {b d:Nat}{e:Tr}(h:Ug a f b=.ok e d):e.count+3 * b+2<=3 * d:=by
 unfold Ug at h;obtain⟨j,i,g,h⟩:=fS h;cases h;have:=wP aq8 g;rw[fW];omega
section
variable (d b:Nat)
include d b
def O1:Cb b (oz a f d b):=Vx (c.vl _ _)
def av2:Cb b (XZ a f d b):=by
 intro q p h;unfold XZ at h;obtain⟨_,k,i,h⟩:=fS h;obtain⟨_,i2,e,h⟩:=fS h;obtain⟨j,o,g,h⟩:=fS h;cases h;have m:=Yt i;have l:=TA e;have n:=Vx (a:=a) (c.vl _ _) j _ g;rw[fW,PS,PY];omega
def xK:Cb b (Vu a f d b):=by
 intro p o h;unfold Vu at h;obtain⟨_,j,i,h⟩:=fS h;obtain⟨q,i2,e,h⟩:=fS h;obtain⟨_,n,g,h⟩:=fS h;cases h;have l:=TA i;have k:=Vx (a:=a) (c.vl _ _) _ _ e;have m:=TA g;omega
def aov:Cb b (WU a f d b):=by
 intro j i h;unfold WU at h;obtain⟨k,g,e,h⟩:=fS h;cases h;have:=wP (av2 c d) e;rw[fW];omega
end
def xb {k:Int}{l:Py}{i b d:Nat}{e:Tr}(h:TI a f k l i b=.ok e d):e.count+3 * b<=3 * d:=by
 unfold TI at h;obtain⟨q,m,j,h⟩:=fS h;obtain⟨p,i2,g,h⟩:=fS h;cases h;have o:=QH j;have n:=Y9 c g;rw[fW,PS,PS,PY,I7];omega
def aow (e b:Nat):Cb b (WV a f e b):=by
 intro m l h;unfold WV at h;obtain⟨_,i,g,h⟩:=fS h;have k:=TA g
 split at h
 ·obtain⟨_,i2,d,h⟩:=fS h;have j:=Yt d;have:=xb c h;omega
 ·have:=xb c h;omega
def av3 (e b:Nat):Cb b (n4 a f e b):=by
 intro m l h;unfold n4 at h;obtain⟨_,i,g,h⟩:=fS h;obtain⟨_,i2,d,h⟩:=fS h;have k:=TA g;have j:=Yt d;have:=xb c h;omega
def aq9 (d b:Nat):Cb b (WH a f d b):=by
 unfold WH
 split
 ·exact xK c d b
 ·exact aov c d b
 ·exact aow c d b
 ·split
  ·intro g e h;cases h;rw[fW,PY];omega
  ·split
   ·intro g e h;cases h;rw[fW,PY];omega
   ·split
    ·intro g e h;cases h;rw[fW,PY];omega
    ·split
     ·intro g e h;cases h;rw[fW,PY];omega
     ·intro g e h;cases h
def agx {m:Nat}:∀ e i b g d,TJ a f m e i b=.ok g d->g.count+3 * b<=i.count+3 * d:=by
 intro e
 induction e with
 | zero=>intro i b g d h;cases h
 | succ e l=>
  intro i b g d h;unfold TJ at h
  split at h
  ·obtain⟨p,n,k,h⟩:=fS h;have o:=Yt k;have j:=l _ _ _ _ h;rw[fW,PS,PY] at j;omega
  ·split at h
   ·obtain⟨p,n,k,h⟩:=fS h;have o:=wP (O1 c m) k;have j:=l _ _ _ _ h;rw[fW,PS] at j;omega
   ·
    cases h;omega
def Tg (d b:Nat):Cb b (VW a f d b):=by
 intro m l h;unfold VW at h;obtain⟨i,e,g,h⟩:=fS h;have k:=aq9 c d b i e g;have j:=agx c _ _ _ _ _ h;omega
def aox (d b:Nat):Cb b (Vw a f d b):=by
 unfold Vw
 split
 ·intro k j h;obtain⟨g,i,e,h⟩:=fS h;cases h;have:=Vx (a:=a) (c.sg _ _) g _ e;rw[fW,PS,PY];omega
 ·exact Tg c d b
def aiJ {l:Int}{n:Nat}:∀ e i b g d,UQ a f l n e i b=.ok g d->g.count+3 * b<=i.count+3 * d:=by
 intro e
 induction e with
 | zero=>intro i b g d h;cases h
 | succ e m=>
  intro i b g d h;unfold UQ at h
  split at h
  ·
   cases h;omega
  ·split at h
   ·
    cases h;omega
   ·obtain⟨p,j,o,h⟩:=fS h;have q:=c.pr _ _ _ p j o;have k:=m _ _ _ _ h;rw[fW,PS,PS,PY] at k;omega
def Nm (e:Int)(g b:Nat):Cb b (Y8 a f e g b):=by
 intro n m h;unfold Y8 at h;obtain⟨j,d,i,h⟩:=fS h;have l:=c.sg _ _ j d i;have k:=aiJ c _ _ _ _ _ h;omega
def arb (i b:Nat):Cb b (Xl a f i b):=by
 intro o n h;unfold Xl at h;obtain⟨k,e,j,h⟩:=fS h;have g:=c.pr _ _ _ k e j
 split at h
 ·split at h
  ·obtain⟨l,i2,d,h⟩:=fS h;cases h;have m:=Vx (a:=a) (c.vl _ _) l _ d;rw[fW,PS,PS,PY];omega
  ·
   cases h
 ·
  cases h;exact g
def av5 (k t q:Nat):Cb q (nM a f k t q):=by
 intro u s h;unfold nM at h
 split at h
 ·unfold oB at h;obtain⟨n,i,e,h⟩:=fS h;have o:=Yt e
  split at h
  ·
   cases h
  ·split at h
   ·obtain⟨g,i2,b,h⟩:=fS h;obtain⟨_,m,d,h⟩:=fS h;cases h;have j:=Vx (a:=a) (c.vl _ _) g _ b;have l:=TA d;rw[fW,PS,PY];omega
   ·obtain⟨_,m,d,h⟩:=fS h;cases h;have l:=TA d;rw[fW,PY];omega
 ·exact av3 c k q u s h
 ·have:=Y9 c h;omega
 ·obtain⟨_,m,d,h⟩:=fS h;cases h;have l:=TA d;rw[fW,PY];omega
 ·unfold WW at h;obtain⟨g,i,e,h⟩:=fS h;obtain⟨n,i2,b,h⟩:=fS h;have o:=xK c k _ g i e;have j:=Vx (a:=a) (c.st _ _) n _ b
  split at h
  ·obtain⟨s2,m,d,h⟩:=fS h;cases h;have l:=Vx (a:=a) (c.st _ _) s2 _ d;rw[fW,PS,PS,PS,PY];omega
  ·
   cases h;rw[fW,PS,PS,PY];omega
 ·unfold UE at h;obtain⟨g,i,e,h⟩:=fS h;obtain⟨n,i2,b,h⟩:=fS h;cases h;have o:=xK c k _ g i e;have j:=Vx (a:=a) (c.st _ _) n _ b;rw[fW,PS,PS,PY];omega
 ·unfold XC at h
  split at h
  ·exact Ip
  ·obtain⟨_,i2,b,h⟩:=fS h;cases h;have j:=TA b;rw[fW,PY];omega
 ·have r{G}(h:G:=by
  have v:=TA N;have o:=Y9 c e;have j:Tr.f1 z+3 * i<=3 * i2:=by
   unfold pZ at b
   split at b
   ·have r{G}(h:G:=by
    cases b;have:=TA I;have:=Yt D;have:=TA M;have:=Y9 c p;rw[PS,fW,PS,PY];omega):=O6 h;exact Fp
   ·
    cases b;rw[PY];omega
  have l:Tr.f1 A+3 * i2<=3 * m:=by
   unfold Xm at d
   split at d
   ·obtain⟨F,E,p,d⟩:=fS d;cases d;have:=Y9 c p;rw[PS,fW,PS,PY];omega
   ·
    cases d;rw[PY];omega
  split at h
  ·
   cases h
  ·
   cases h;rw[fW,PS,U9];omega):=O6 h;exact Ib
def MU (k d:Nat):Cb d (SX a f k d):=by
 unfold SX
 split
 ·exact av5 c k _ d
 ·intro m l h;unfold o3 at h;exact Ip
omit c in
theorem Ni:∀ d,Ia (iN a d):=by
 intro d
 induction d with
 | zero=>exact⟨λ_ _ _ _ h=>by (cases h),λ_ _ _ _ h=>by (cases h),λ_ _ _ _ _ h=>by (cases h),λ_ _ _ _ h=>by (cases h)⟩
 | succ d b=>exact⟨MU b,arb b,Nm b,aox b⟩
def R3:∀ g b d i e,Sl a f g b d=.ok i e->Tr.f1 i+3 * d<=Tr.f1 b+3 * e:=by
 intro g
 induction g with
 | zero=>intro b d i e h;cases h
 | succ g j=>
  intro b d i e h;unfold Sl at h;exact CA
def PJ {d:Tr}{b:Nat}(h:Wh a f=.ok d b):d.count<=1+3 * b:=by
 unfold Wh at h;obtain⟨i,g,e,h⟩:=fS h;cases h;have:=R3 c _ _ _ _ _ e;rw[PY] at this;rw[I7,fW];omega
end
namespace Hp
def QY {f:Pe}{base:Nat}{e:TypeId}{size:Nat}{d:Px}{c:Nat}{g:List Px}(h:f.ownsRow base e size d c g):d=Q8/\c=0\/∃ b a,d=.slice (some (O7 b 0)) c a:=by
 rcases h.2 with h|⟨b,a,_,h,_⟩
 ·exact .inl h
 ·exact .inr ⟨b,a,h⟩
def gD {c wr:Pe}{b:Nat}(h:Below b c wr){a:Addr}(d:a.block<b):wr.cell? a=c.cell? a:=gs (h.block a.block d)
def mr {c b:Pe}(a:Pn c b):c.grownBy b none:=⟨a.os,a.tape,a.output,a.size,λe d _=>a.block e d⟩
def Qg {e b:Pe}{base:Nat}{c:TypeId}{size:Nat}{a:Px}{d:Nat}{f:List Px}(h:e.ownsRow base c size a d f)(g:Pn e b):b.ownsRow base c size a d f:=
 h.kept (mr g) (by cases a.ownBlock <;> simp)
def QM {f:Pe}{base:Nat}{d:TypeId}{size:Nat}{e:Px}{i:Nat}{j:List Px}(h:f.ownsRow base d size e i j){a:Nat}(b:e.ownBlock=some a):∃ c,f.heap[a]? = some (PZ c d):=by
 rcases h.2 with ⟨rfl,_⟩|⟨l,k,c,rfl,_,g,_⟩
 ·simp[Value.ownBlock] at b
 ·simp[Value.ownBlock] at b;subst b;exact⟨c,g⟩
def RG {f:Pe}{d e:Nat}{j k:Array Px}{b c:TypeId}{i l:Nat × Nat}(h:f.heap[d]? = some (.cells j b i))(a:f.heap[e]? = some (.cells k c l))(g:b≠c):d≠e:=by
 rintro rfl;rw[h] at a;simp at a;exact g a.2.1
structure Ql (T:List TypeId)(B:Nat)(w w':Pe):Prop where
 below:Below B w w'
 rest:∀ (b:Nat) c (e:TypeId),w.heap[b]? = some (PZ c e)->e ∉ T->w'.heap[b]? = some (PZ c e)
def Ql.of {T:List TypeId}{B:Nat}{a b:Pe}(c:Pn a b)(d:B<=a.heap.size):Ql T B a b:=
 ⟨c.mono d,λe _ _ h _=>(c.block e (gz h)).trans h⟩
def Ql.trans {b:List TypeId}{a:Nat}{c d e:Pe}(h:Ql b a c d)(g:Ql b a d e):Ql b a c e:=⟨h.below.trans g.below,λx y f j i=>g.rest x y f (h.rest x y f j i) i⟩
def Ql.mono {e d:List TypeId}{c B':Nat}{f b:Pe}(h:Ql e c f b)(m:∀ a ∈ e,a ∈ d)(i:B'<=c):Ql d B' f b:=⟨h.below.mono i,λk l a g j=>h.rest k l a g λn=>j (m a n)⟩
section
variable {a:List TypeId}
include a
def Ql.grown {f:Nat}{e i:Pe}{k:Option Nat}(c:e.grownBy i k)(n:f<=e.heap.size)(h:∀ d,k=some d->f<=d/\∃ g b,e.heap[d]? = some (PZ g b)/\b ∈ a):Ql a f e i:=by
 refine⟨⟨c.os,c.tape,c.output,c.size,λd l=>?_⟩,λj _ m g o=>?_⟩
 ·exact c.block d (hn l n) (λb=>by have:=(h d b.symm).1;omega)
 ·refine(c.block j (gz g) (λb=>?_)).trans g;obtain⟨_,r,q,p,m⟩:=h j b.symm;exact RG p g (by rintro rfl;exact o m) rfl
def Ql.setCell {B:Nat}{i c:Pe}(h:Ql a B i c){b f:Nat}{n:Array Px}{d:TypeId}(p:c.heap[b]? = some (PZ n d))(l:d ∈ a)(k:B<=b)(r:Px):Ql a B i (c.setCell (O7 b f) r):=by
 refine⟨h.below.setCell (p:=(O7 b f)) k _,λm o q j g=>?_⟩;have e:=h.rest m o q j g;rw[gV _ _ _ _ (by exact(RG p e (by rintro rfl;exact g l)).symm)]
 exact e
def PV {d l:Nat}{j c:Pe}{b:TypeId}{size:Nat}{i:Px}{g:Nat}{k:List Px}(h:j.ownsRow d b size i g k)(r:Ql a l j c)(n:b ∉ a):c.ownsRow d b size i g k:=by
 refine⟨h.1,?_⟩
 rcases h.2 with p|⟨f,q,e,o,m,s,rest⟩
 ·exact fM p
 ·exact fU ⟨f,q,e,o,m,r.rest f e b s n,rest⟩
end
structure El where
 hd:List Px
 n:Nat
 xs:List Px
def flat:List El->List Px->List Px
 | a::b,c::d=>a.hd++c::flat b d
 | _,_=>[]
def jd {i:Nat}:∀ (a:List El) (c:List Px) (e b:Nat) (f:El) (j:Px),(∀ f ∈ a,f.hd.length+1=i)->a[e]? = some f->c[e]? = some j->b<i->(flat a c)[e * i+b]? =(f.hd++[j])[b]?
 | [],_,e,b,f,j,_,h,_,_=>by simp at h
 | _::_,[],e,b,f,j,_,_,h,_=>by simp at h
 | d::a,g::c,0,b,f,j,l,h,k,m=>by
  simp at h k;subst h k;have:=l d P7
  show (d.hd++g::flat a c)[0 * i+b]? = _
  rw[i1,ib,show d.hd++g::flat a c=(d.hd++[g])++flat a c by simp,ht RQ]
 | d::a,g::c,e+1,b,f,j,l,h,k,m=>by
  have n:=jd a c e b f j (λx o=>l x (by simp[o])) (by simpa using h) (by simpa using k) m;have:=l d P7
  show (d.hd++g::flat a c)[(e+1) * i+b]? = _
  rw[show d.hd++g::flat a c=(d.hd++[g])++flat a c by simp,show (e+1) * i+b=(d.hd++[g]).length+(e * i+b) by simp[iE];omega,hm O9,ng]
  exact n
def CH:∀ (a c:List El) (b d:List Px),b.length=a.length->flat (a++c) (b++d)=flat a b++flat c d
 | [],c,[],d,_=>by simp[flat]
 | [],_,_::_,_,h=>by simp at h
 | _::_,_,[],_,h=>by simp at h
 | e::a,c,f::b,d,h=>by
  have:=CH a c b d (by simpa using h);simp[flat,this]
def yf {c:Nat}:∀ (b:List El) (e:List Px) (a:Nat) (f g:El) (d:Px),(∀ f ∈ b,f.hd.length+1=c)->e.length=b.length->b[a]? = some f->g.hd=f.hd->flat (b.set a g) (e.set a d)=(flat b e).set (a * c+(c - 1)) d
 | [],_,a,f,g,d,_,_,h,_=>by simp at h
 | _::_,[],a,f,g,d,_,h,_,_=>by simp at h
 | i::b,j::e,0,f,g,d,k,_,h,l=>by
  simp at h;subst h;have:=k i P7
  show g.hd++d::flat b e=(i.hd++j::flat b e).set (0 * c+(c - 1)) d
  rw[l,i1,ib,mN _ _ O9,show c - 1 - i.hd.length=0 by omega];rfl
 | i::b,j::e,a+1,f,g,d,k,o,h,l=>by
  have m:=yf b e a f g d (λx n=>k x (by simp[n])) (by simpa using o) (by simpa using h) l;have:=k i P7
  show i.hd++j::flat (b.set a g) (e.set a d)=(i.hd++j::flat b e).set ((a+1) * c+(c - 1)) d
  rw[m,show (a+1) * c+(c - 1)=i.hd.length+((a * c+(c - 1))+1) by simp[iE];omega,mN _ _ O9,ng]
  rfl
structure Tb (B:Nat)(jD:TypeId)(so:Nat)(h2:TypeId)(kS:Nat)(w:Pe)(tv:Px)(es:List El)(vs:List Px):Prop where
 row:w.ownsRow B jD so tv es.length (flat es vs)
 len:vs.length=es.length
 hl:∀ e ∈ es,e.hd.length+1=so
 own:∀ (i:Nat) e v,es[i]? = some e->vs[i]? = some v->w.ownsRow B h2 kS v e.n e.xs
 apart:∀ (i j:Nat) a b g,vs[i]? = some a->vs[j]? = some b->a.ownBlock=some g->b.ownBlock=some g->i=j
 ne:jD≠h2
section
variable {j:Nat} {B:TypeId} {p:Nat} {u:TypeId} {C:Nat} {w w':Pe} {E:Px} {l:List El} {t:List Px}
def Tb.nil (a:B≠u):Tb j B p u C w Q8 [] []:=
 ⟨iK _ _ _ _,rfl,λe h=>by simp at h,λb i k h=>by simp at h,λb g c d f h=>by simp at h,a⟩
def Tb.fH (h:Tb j B p u C w E l t)(a:Pn w w'):Tb j B p u C w' E l t:=
 ⟨Qg h.row a,h.len,h.hl,λd e f b c=>Qg (h.own d e f b c) a,h.apart,h.ne⟩
def Tb.fR {a:List TypeId}{c:Nat}(h:Tb j B p u C w E l t)(b:Ql a c w w')(g:B ∉ a)(d:u ∉ a):Tb j B p u C w' E l t:=
 ⟨PV h.row b g,h.len,h.hl,λi k m e f=>PV (h.own i k m e f) b d,h.apart,h.ne⟩
section
variable (h:Tb j B p u C w E l t) {i:Nat}
include h i
def Tb.at_ {e:El}(d:l[i]? = some e) :
  ∃ a k b,E=.slice (some (O7 a 0)) l.length k/\i<l.length/\t[i]? = some b/\(∀ c m,(e.hd++[b])[c]? = some m->w.cell? (O7 a (i * p+c))=some m)/\w.ownsRow j u C b e.n e.xs/\a<w.heap.size/\j<=a/\(∀ c,w.frozen? (O7 a c)=false)/\e.hd.length+1=p:=by
 have f:i<l.length:=(gr.1 d).1;obtain⟨b,g⟩:∃ b,t[i]? = some b:=⟨_,ga (by rw[h.len];exact f)⟩
 have s:=h.hl e (gt d)
 rcases QY h.row with ⟨_,v⟩|⟨a,k,rfl⟩
 ·omega
 ·refine⟨a,k,b,rfl,f,g,λc m n=>?_,h.own i e b d g,(h.row.lt a rfl).2,(h.row.lt a rfl).1,h.row.frozenAt,s⟩;have o:c<p:=by
   have:=(gr.1 n).1;simp at this;omega
  have q:i * p+c<l.length * p:=by
   have r:(i+1) * p<=l.length * p:=Nat.mul_le_mul_right _ f;rw[iE] at r;omega
  rw[h.row.cellAt _ q,jd l t i c e b h.hl d g o];exact n
def Tb.nc {c:Px}(g:t[i]? = some c):∃ q,l[i]? = some q/\(∀ a,c.ownBlock=some a->j<=a/\a<w.heap.size/\E.ownBlock≠some a/\∃ b,w.heap[a]? = some (PZ b u)):=by
 have m:i<l.length:=by
  have:=(gr.1 g).1;rw[h.len] at this;exact this
 refine⟨l[i],ga m,λa d=>?_⟩;have e:=h.own i l[i] c (ga m) g;obtain⟨b,f⟩:=QM e d;have k:=e.lt a d;refine⟨k.1,k.2,λn=>?_,b,f⟩;obtain⟨s,r⟩:=QM h.row n;exact RG f r (λo=>h.ne o.symm) rfl
end
def mem_set {l:List El}{b:Nat}{a x:El}(h:x ∈ l.set b a):x=a\/x ∈ l:=(iG h).symm
def Tb.bump {n:Pe}(h:Tb j B p u C w E l t)(F:j<=w.heap.size){b:Nat}{a:El}{c:Px}(i:l[b]? = some a)(f:t[b]? = some c)
  (q:w.grownBy n c.ownBlock) {v:Nat} {A:List Px} (L:n.ownsRow j u C c v A):Tb j B p u C n E (l.set b ⟨a.hd,v,A⟩) t/\Ql [u] j w n:=by
 obtain⟨N,_,k⟩:=h.nc f;have D:t.set b c=t:=by
  obtain⟨d,rfl⟩:=gr.1 f;exact List.set_getElem_self d
 have M:=h.hl a (gt i);refine⟨⟨?_,by simpa using h.len,?_,?_,h.apart,h.ne⟩,Ql.grown q F λg e=>⟨(k g e).1,(k g e).2.2.2.choose,u,(k g e).2.2.2.choose_spec,by simp⟩⟩
 ·have e:=h.row.kept q (by
   cases o:E.ownBlock with
   | none=>exact .inl rfl
   | some z=>exact .inr λa=>(k z a.symm).2.2.1 o)
  have m:=yf l t b a ⟨a.hd,v,A⟩ c h.hl h.len i rfl;rw[D] at m;have g:=jd l t b (p - 1) a c h.hl i f O9;rw[hm O9,show p - 1 - a.hd.length=0 by omega] at g;rw[List.length_set,m];rw[show (flat l t).set (b * p+(p - 1)) c=flat l t by
   obtain⟨d,o⟩:=gr.1 (g.trans rfl);rw[<-o];exact List.set_getElem_self d]
  exact e
 ·intro x d
  rcases mem_set d with rfl|d
  ·exact M
  ·exact h.hl x d
 ·intro s I o g m
  by_cases r:b=s
  ·subst r;rw[f] at m
   cases m
   have:b<l.length:=(gr.1 i).1;simp[hZ this] at g;subst g;exact L
  ·rw[h9 r] at g;refine(h.own s I o g m).kept q ?_
   cases H:o.ownBlock with
   | none=>exact .inl rfl
   | some z=>exact .inr λa=>r (h.apart b s c o z f m a.symm H)
def Tb.put {r:Pe}{d T:Nat}(h:Tb j B p u C w (.slice (some (O7 d 0)) l.length T) l t)(ac:j<=w.heap.size){b:Nat}{a:El}{v:Px}(I:l[b]? = some a)(H:t[b]? = some v)
  (L:w.grownBy r v.ownBlock) {e:Px} {N:Nat} {O:List Px} (am:r.ownsRow j u C e N O) (U:∀ c,e.ownBlock=some c->v.ownBlock=some c\/w.heap.size<=c) :
  Tb j B p u C (r.setCell (O7 d (b * p+(p - 1))) e) (.slice (some (O7 d 0)) l.length T) (l.set b ⟨a.hd,N,O⟩) (t.set b e)/\Ql [B,u] j w (r.setCell (O7 d (b * p+(p - 1))) e):=by
 obtain⟨aC,_,z⟩:=h.nc H;have aj:=h.row.lt d rfl;obtain⟨aF,ay⟩:=QM h.row (a:=d) rfl;have R:v.ownBlock≠some d:=λa=>(z d a).2.2.1 rfl;have X:e.ownBlock≠some d:=λa=>by
  rcases U d a with A|A
  ·exact R A
  ·omega
 have m:=h.row.kept L (.inr (λa=>R a.symm));obtain⟨ai,aD⟩:=m.stored (b * p+(p - 1)) e;obtain⟨ax,ak⟩:=QM m (a:=d) rfl;have ah:=yf l t b a ⟨a.hd,N,O⟩ e h.hl h.len I rfl;have s:b<l.length:=(gr.1 I).1;have ap:=h.hl a (gt I);refine⟨⟨?_,by simpa using h.len,?_,?_,?_,h.ne⟩,?_⟩
 ·rw[List.length_set,ah];exact ai
 ·intro x k
  rcases mem_set k with rfl|k
  ·exact ap
  ·exact h.hl x k
 ·intro i o g n f
  by_cases q:b=i
  ·subst q;rw[hZ (by rw[h.len];exact s)] at f
   cases f;simp[hZ s] at n;subst n;exact ni am X _
  ·rw[h9 q] at n f;have D:r.ownsRow j u C g o.n o.xs:=by
    refine(h.own i o g n f).kept L ?_
    cases F:g.ownBlock with
    | none=>exact .inl rfl
    | some c=>exact .inr λa=>q (h.apart b i v g c H f a.symm F)
   obtain⟨_,_,P⟩:=h.nc f;exact ni D (λa=>(P d a).2.2.1 rfl) _
 ·have W:∀ (i:Nat) g c,i≠b->t[i]? = some g->e.ownBlock=some c->g.ownBlock=some c->False:=by
   intro i g c n f A S
   rcases U c A with ad|au
   ·exact n (h.apart i b g v c f H S ad)
   ·obtain⟨_,_,P⟩:=h.nc f;have:=(P c S).2.1;omega
  intro F g x y c q f k M
  by_cases D:b=F
  ·subst D
   by_cases o:b=g
   ·exact o
   ·rw[hZ (by rw[h.len];exact s)] at q
    cases q;rw[h9 o] at f;exact(W g y c (λa=>o a.symm) f k M).elim
  ·rw[h9 D] at q
   by_cases o:b=g
   ·subst o;rw[hZ (by rw[h.len];exact s)] at f
    cases f;exact(W F x c (λa=>D a.symm) q M k).elim
   ·rw[h9 o] at f;exact h.apart F g x y c q f k M
 ·exact Ql.setCell (Ql.grown L ac λf m=>⟨(z f m).1,(z f m).2.2.2.choose,u,(z f m).2.2.2.choose_spec,by simp⟩) ak P7 aj.1 _
def Tb.push {f:Pe}{k:Px}(h:Tb j B p u C w E l t)(A:j<=w.heap.size)(i:List Px)(D:i.length+1=p)(o:w.grownBy f E.ownBlock)
  (F:f.ownsRow j B p k (l.length+1) (flat l t++(i++[Q8]))) :
  Tb j B p u C f k (l++[⟨i,0,[]⟩]) (t++[Q8])/\Ql [B] j w f:=by
 refine⟨⟨?_,by simp[h.len],?_,?_,?_,h.ne⟩,Ql.grown o A λH m=>?_⟩
 ·rw[CH _ _ _ _ h.len,gj];exact F
 ·intro x a
  rcases gU.1 a with a|a
  ·exact h.hl x a
  ·simp at a;subst a;exact D
 ·intro d q n b a
  by_cases c:d<l.length
  ·rw[ht c] at b;rw[ht (by rw[h.len];exact c)] at a
   obtain⟨_,_,s⟩:=h.nc a;refine(h.own d q n b a).kept o ?_
   cases g:n.ownBlock with
   | none=>exact .inl rfl
   | some e=>exact .inr λr=>(s e g).2.2.1 r.symm
  ·have r:=(gr.1 b).1;simp at r;have:d=l.length:=O9;subst this;rw[hm O9] at b;rw[hm (by rw[h.len];omega)] at a
   simp[h.len] at b a;subst b a;exact iK _ _ _ _
 ·intro b d c n e a z s r;have q:∀ (b:Nat) (c:Px),(t++[Q8])[b]? = some c->c.ownBlock=some e->t[b]? = some c:=by
   intro b c a g
   by_cases I:b<t.length
   ·rw[ht I] at a;exact a
   ·rw[hm O9] at a;have v:b - t.length=0:=by
     have:=(gr.1 a).1;simp at this;omega
    rw[v] at a;simp at a;subst a;simp[Value.ownBlock] at g
  exact h.apart b d c n e (q b c a s) (q d n z r) s r
 ·obtain⟨b,a⟩:=QM h.row m;exact⟨(h.row.lt H m).1,b,B,a,by simp⟩
structure Va where
 k:Int
 n:Int
 s:Py
structure Pr where
 name:Py
 v:Va
 fixed:Bool
structure Ce where
 name:Py
 v:Va
 kind:Int
 ready:Bool
structure Ob where
 code:Int
 ps:List Pr
structure Ro where
 outer:Int
 f6:Int
 cs:List Ce
structure Mo where
 objs:List Ob
 Pz:List Ro
def Pr.h (a:Pr):List Px:=[Pj a.name,O3 a.v.k,O3 a.v.n,Pj a.v.s,Pv a.fixed]
def Ce.h (a:Ce):List Px:=[Pj a.name,O3 a.v.k,O3 a.v.n,Pj a.v.s,O3 a.kind,Pv a.ready]
def Ob.h (a:Ob):El:=⟨[O3 a.code],a.ps.length,a.ps.flatMap Pr.h⟩
def Ro.h (a:Ro):El:=⟨[O3 a.outer,O3 a.f6],a.cs.length,a.cs.flatMap Ce.h⟩
def iw (a:Py)(x:Py):Bool:=x.toList==a.toList
def fP (a:Py)(c:List Pr):Option Nat:=c.findIdx? λb=>iw a b.name
def fC (c:Py)(b:List Ce):Option Nat:=b.findIdx? λa=>iw c a.name
def Yv {α:Type}{f:α->List Px}{a:Nat}(g:∀ d,(f d).length=a):∀ (e:List α) (c b:Nat),b<a->(e.flatMap f)[c * a+b]? =(e[c]?).bind λd=>(f d)[b]?
 | [],c,b,_=>by simp
 | d::e,0,b,i=>by
  rw[hL,i1,ib,ht (by rw[g];exact i)]
  rfl
 | d::e,c+1,b,i=>by
  have h:=Yv g e c b i;rw[hL,show (c+1) * a+b=(f d).length+(c * a+b) by rw[g,iE];omega,hm O9,ng,h]
  rfl
def G6 {α:Type}{d:α->List Px}{b:Nat}(e:∀ c,(d c).length=b)(a:List α):(a.flatMap d).length=a.length * b:=by
 induction a with
 | nil=>simp
 | cons c a f=>rw[hL,gj,f,e,gL,iE];omega
structure HP (H:Nat)(R:List Px)(w:Pe)(M:Mo)(az aB:Px)(os ce:List Px):Prop where
 gw:w.heap[H]? = some (.cells (az::aB::R).toArray 84 (0,0))
 ob:Tb H 185 2 207 5 w az (M.objs.map Ob.h) os
 ro:Tb H 198 3 262 6 w aB (M.Pz.map Ro.h) ce
def Qx (H:Nat)(R:List Px)(w:Pe)(a:Mo):Prop:=∃ c b e d,HP H R w a c b e d
def HP.fH {H:Nat}{R:List Px}{w w':Pe}{b:Mo}{d c:Px}{f e:List Px}(h:HP H R w b d c f e)(a:Pn w w'):HP H R w' b d c f e:=
 ⟨(a.block H (gz h.gw)).trans h.gw,h.ob.fH a,h.ro.fH a⟩
def HP.c {H:Nat}{R:List Px}{w:Pe}{c:Mo}{b a:Px}{e d:List Px}(h:HP H R w c b a e d):w.cell? (O7 H 0)=some b/\w.cell? (O7 H 1)=some a/\w.frozen? (O7 H 0)=false/\w.frozen? (O7 H 1)=false/\H<w.heap.size:=by
 refine⟨?_,?_,?_,?_,gz h.gw⟩
 ·simp[World.cell?,h.gw]
 ·simp[World.cell?,h.gw]
 all_goals
  simp[World.frozen?,h.gw]
def mc (c:Nat):Px->Option Nat->Option Addr
 | .slice (some a) _ _,some b=>some (O7 a.block (b * c))
 | _,_=>none
def Zx (b:Nat)(a:Px):mc b a none=none:=by cases a <;> simp[mc]
def Zw (c:Px)(b:Nat)(f:c=Q8/\b=0\/∃ e d,c=.slice (some (O7 e 0)) b d)(a:Int)(i:a<0\/(b:Int)<=a)(w:Pe) :
  Pq 126 #[c,O3 a] w λg w'=>g=PK Ry/\w'=w:=by
 rcases f with ⟨rfl,rfl⟩|⟨e,d,rfl⟩
 ·go_enter func126,ntmps126
  go_wp2
  all_goals go_ret
  all_goals exact⟨rfl,rfl⟩
 ·go_enter func126,ntmps126;exact ss
def q6 (b d c:Nat)(a:Nat)(f:a<c)(w:Pe) :
  Pq 126 #[.slice (some (O7 b 0)) c d,O3 (a:Int)] w λe w'=>e=PK (PL b (a * 2))/\w'=w:=by
 go_enter func126,ntmps126;exact ss
def OK (a:Nat)(c:Nat)(d x:Py)(b:Nat)(w:Pe)(h:w.cell? (O7 a c)=some (Pj x))(f:w.cell? (O7 b 0)=some (Pj d)) :
  Pq 206 #[PL a c,PL b 0] w λe w'=>e=PK (Pv (x.toList==d.toList))/\w'=w.drew:=by
 go_enter func206,ntmps206
 go_wp2
 go_region_with fail
 all_goals go_wp2
 all_goals go_ret
 all_goals exact⟨rfl,rfl⟩
def alg (M:Px)(c:List Pr)(base:Nat)(s:Py)(v:Nat)(w:Pe)(L:w.ownsRow base 207 5 M c.length (c.flatMap Pr.h))(W:c.length<=1000000000)(H:w.cell? (O7 v 0)=some (Pj s)) :
  Pq 205 #[M,.func (.func 206) #[] #[PL v 0]] w λd w'=>d=PK (.pointer (mc 5 M (fP s c)))/\Pn w w':=by
 rcases QY L with ⟨rfl,R⟩|⟨z,aj,rfl⟩
 ·have:c=[]:=lI.1 R;subst this;clear R W;go_enter func205,ntmps205;exact Ll
 ·have m:=(L.lt z rfl).2;have ah:=Y (i7 w _ H);have ad:Hid (∀ a g,c[a]? = some g->w.cell? (O7 z (a * 5))=some (Pj g.name)):=λa g f=>by
   have U:a<c.length:=(gr.1 f).1;have h:=L.cellAt (a * 5+0) O9;rw[Yv (a:=5) (λ_=>rfl) c a 0 Pm,f] at h;simpa[Pr.h] using h
  have ac:=Y H;have X:=Y m;clear H m;go_enter func205,ntmps205;go_wp2_with fail
  go_loopw [8] (λn wr=>∃ a:Nat,a<=c.length/\n=O3 a/\(∀ e g,e<a->c[e]? = some g->iw s g.name=false)/\Pn w wr) (λn _=>c.length - (intOf n).toNat)
  case atStart=>exact⟨0,f3 _,rfl,λe g k=>absurd k (lf _),RP⟩
  case round=>
   obtain⟨a,U,rfl,S,f⟩:=hrel;have A:=Y S;have q:=f;clear S f
   by_cases m:a<c.length
   ·obtain⟨g,I⟩:∃ g,c[a]? = some g:=⟨_,ga m⟩;have T:wr.cell? (O7 z (a * 5))=some (Pj g.name):=(gD q (a:=(O7 z (a * 5))) X.out).trans (ad.out a g I);have P:wr.cell? (O7 v 0)=some (Pj s):=(gD q (a:=(O7 v 0)) ah.out).trans ac.out;have i:=OK z (a * 5) s g.name v wr T P;have O:=Y I;clear T P I
    cases o:(g.name.toList==s.toList)
    ·exact KB
    ·rw[o] at i;have D:=Y o;clear o;have b{G}(h:G:=by
     go_wp2;go_ret;have F:fP s c=some a:=by
      rw[fP,jf];exact HZ
     rw[F];exact⟨rfl,q.drew⟩):=O6 h;exact mj
   ·have b:a=c.length:=O9;subst b;go_wp2;go_ret;have F:fP s c=none:=by
     rw[fP,jF];intro g f;obtain⟨e,k,rfl⟩:=List.mem_iff_getElem.1 f;exact A.out e _ k (ga k)
    rw[F];exact⟨rfl,q⟩
def arE (b:Py)(w:Pe) :
  Pq 127 #[Ry,Pj b] w λa w'=>a=PK Ry/\Pn w w':=by
 go_enter func127,ntmps127;go_wp2;go_ret;exact⟨rfl,QJ⟩
def vN (e i:Nat)(c:Px)(a:List Pr)(base:Nat)(b:Py)(w:Pe)(h:w.cell? (O7 e (i+1))=some c)(g:w.ownsRow base 207 5 c a.length (a.flatMap Pr.h))(n:a.length<=1000000000) :
  Pq 127 #[PL e i,Pj b] w λd w'=>d=PK (.pointer (mc 5 c (fP b a)))/\Pn w w':=by
 have f:=i7 w _ h;have q:e<w.heap.size:=f;have k:=alg c a base b w.heap.size (w.alloc (.cells #[Pj b] 9)) (g.alloc _) n P7;have m:=QY g;clear f;go_enter func127,ntmps127;exact FN
def Yx (c:Px)(b:Nat)(f:c=Q8/\b=0\/∃ e d,c=.slice (some (O7 e 0)) b d)(a:Int)(i:a<0\/(b:Int)<=a)(w:Pe) :
  Pq 122 #[c,O3 a] w λg w'=>g=PK Ry/\w'=w:=by
 rcases f with ⟨rfl,rfl⟩|⟨e,d,rfl⟩
 ·go_enter func122,ntmps122
  go_wp2
  all_goals go_ret
  all_goals exact⟨rfl,rfl⟩
 ·go_enter func122,ntmps122;exact ss
def ra (b d c:Nat)(a:Nat)(f:a<c)(w:Pe) :
  Pq 122 #[.slice (some (O7 b 0)) c d,O3 (a:Int)] w λe w'=>e=PK (PL b (a * 3))/\w'=w:=by
 go_enter func122,ntmps122;exact ss
def awm (a:Nat)(c:Nat)(d x:Py)(b:Nat)(w:Pe)(h:w.cell? (O7 a c)=some (Pj x))(f:w.cell? (O7 b 0)=some (Pj d)) :
  Pq 204 #[PL a c,PL b 0] w λe w'=>e=PK (Pv (x.toList==d.toList))/\w'=w.drew:=by
 go_enter func204,ntmps204
 go_wp2
 go_region_with fail
 all_goals go_wp2
 all_goals go_ret
 all_goals exact⟨rfl,rfl⟩
def alh (M:Px)(c:List Ce)(base:Nat)(s:Py)(v:Nat)(w:Pe)(L:w.ownsRow base 262 6 M c.length (c.flatMap Ce.h))(W:c.length<=1000000000)(H:w.cell? (O7 v 0)=some (Pj s)) :
  Pq 203 #[M,.func (.func 204) #[] #[PL v 0]] w λd w'=>d=PK (.pointer (mc 6 M (fC s c)))/\Pn w w':=by
 rcases QY L with ⟨rfl,R⟩|⟨z,aj,rfl⟩
 ·have:c=[]:=lI.1 R;subst this;clear R W;go_enter func203,ntmps203;exact Ll
 ·have m:=(L.lt z rfl).2;have ah:=Y (i7 w _ H);have ad:Hid (∀ a g,c[a]? = some g->w.cell? (O7 z (a * 6))=some (Pj g.name)):=λa g f=>by
   have U:a<c.length:=(gr.1 f).1;have h:=L.cellAt (a * 6+0) O9;rw[Yv (a:=6) (λ_=>rfl) c a 0 Pm,f] at h;simpa[Ce.h] using h
  have ac:=Y H;have X:=Y m;clear H m;go_enter func203,ntmps203;go_wp2_with fail
  go_loopw [8] (λn wr=>∃ a:Nat,a<=c.length/\n=O3 a/\(∀ e g,e<a->c[e]? = some g->iw s g.name=false)/\Pn w wr) (λn _=>c.length - (intOf n).toNat)
  case atStart=>exact⟨0,f3 _,rfl,λe g k=>absurd k (lf _),RP⟩
  case round=>
   obtain⟨a,U,rfl,S,f⟩:=hrel;have A:=Y S;have q:=f;clear S f
   by_cases m:a<c.length
   ·obtain⟨g,I⟩:∃ g,c[a]? = some g:=⟨_,ga m⟩;have T:wr.cell? (O7 z (a * 6))=some (Pj g.name):=(gD q (a:=(O7 z (a * 6))) X.out).trans (ad.out a g I);have P:wr.cell? (O7 v 0)=some (Pj s):=(gD q (a:=(O7 v 0)) ah.out).trans ac.out;have i:=awm z (a * 6) s g.name v wr T P;have O:=Y I;clear T P I
    cases o:(g.name.toList==s.toList)
    ·exact KB
    ·rw[o] at i;have D:=Y o;clear o;have b{G}(h:G:=by
     go_wp2;go_ret;have F:fC s c=some a:=by
      rw[fC,jf];exact HZ
     rw[F];exact⟨rfl,q.drew⟩):=O6 h;exact mj
   ·have b:a=c.length:=O9;subst b;go_wp2;go_ret;have F:fC s c=none:=by
     rw[fC,jF];intro g f;obtain⟨e,k,rfl⟩:=List.mem_iff_getElem.1 f;exact A.out e _ k (ga k)
    rw[F];exact⟨rfl,q⟩
def NM (b:Py)(w:Pe) :
  Pq 123 #[Ry,Pj b] w λa w'=>a=PK Ry/\Pn w w':=by
 go_enter func123,ntmps123;go_wp2;go_ret;exact⟨rfl,QJ⟩
def wB (e i:Nat)(c:Px)(a:List Ce)(base:Nat)(b:Py)(w:Pe)(h:w.cell? (O7 e (i+2))=some c)(g:w.ownsRow base 262 6 c a.length (a.flatMap Ce.h))(n:a.length<=1000000000) :
  Pq 123 #[PL e i,Pj b] w λd w'=>d=PK (.pointer (mc 6 c (fC b a)))/\Pn w w':=by
 have f:=i7 w _ h;have q:e<w.heap.size:=f;have k:=alh c a base b w.heap.size (w.alloc (.cells #[Pj b] 9)) (g.alloc _) n P7;have m:=QY g;clear f;go_enter func123,ntmps123;exact FN
def Mo.ob (b:Mo)(a:Int):Option Ob:=if a<0 then none else b.objs[a.toNat]?
def Mo.ro (b:Mo)(a:Int):Option Ro:=if a<0 then none else b.Pz[a.toNat]?
def Mo.gv (a:Mo)(c:Int)(b:Py):Option Pr:=(a.ob c).bind λx=>x.ps.find? λd=>iw b d.name
def Mo.ic (a:Mo)(d:Int)(c:Py):Option Ce:=(a.ro d).bind λx=>x.cs.find? λb=>iw c b.name
def Mo.SI (a:Mo)(b:Int):Int:=((a.ro b).map (·.f6)).getD (-1)
def Mo.hA (a:Mo)(b:Int):Int:=((a.ro b).map (·.outer)).getD (-1)
def Mo.gn (a:Mo)(b:Int):Int:=((a.ob b).map (·.code)).getD 0
def Mo.has (a:Mo)(c:Int)(b:Py):Bool:=(a.ic c b).isSome||(a.gv (a.SI c) b).isSome
def Mo.kindOf (a:Mo)(c:Int)(b:Py):Int:=((a.ic c b).map (·.kind)).getD (-1)
structure Mo.Small (M:Mo)(k:Nat):Prop where
 o:M.objs.length<=k
 r:M.Pz.length<=k
 ps:∀ x ∈ M.objs,x.ps.length<=k
 cs:∀ x ∈ M.Pz,x.cs.length<=k
def vZ:Obj:=.cells #[O3 0,O3 0,Qn] 65
def vT:Px:=.agg #[O3 0,O3 0,Qn]
def rK:Option Pr->Px
 | none=>vT
 | some a=>.agg #[O3 a.v.k,O3 a.v.n,Pj a.v.s]
def hP (H:Nat):Px:=PL H 0
def Yy {w a:Pe}{b c d:Px}{f:TypeId}(g:Below (w.heap.size+1) (w.alloc (.cells #[b,c,d] f)) a) :
  a.cell? (O7 w.heap.size 0)=some b/\a.cell? (O7 w.heap.size 1)=some c/\a.cell? (O7 w.heap.size 2)=some d/\(∀ e,a.frozen? (O7 w.heap.size e)=false)/\w.heap.size<a.heap.size:=by
 have h:a.heap[w.heap.size]? = some (PZ #[b,c,d] f):=(g.block _ (ki _)).trans (hD w _);refine⟨by simp[World.cell?,h],by simp[World.cell?,h],by simp[World.cell?,h],λe=>by simp[World.frozen?,h],gz h⟩
def hj {w b:Pe}{j a:Nat}(f:Below j w b)(h:j<=a)(c d e:Px):Below j w (((b.setCell (O7 a 0) c).setCell (O7 a 1) d).setCell (O7 a 2) e):=
 ((f.setCell (p:=(O7 a 0)) h c).setCell (p:=(O7 a 1)) h d).setCell (p:=(O7 a 2)) h e
def WX {α:Type}(c:α->Bool)(a:List α):(a.findIdx? c=none/\a.find? c=none)\/∃ b d,a.findIdx? c=some b/\a[b]? = some d/\a.find? c=some d/\c d=true:=by
 cases h:a.findIdx? c with
 | none=>
  left;refine⟨rfl,?_⟩;rw[jF] at h;rw[lz];intro x e;simp[h x e]
 | some b=>
  right;obtain⟨e,f,g⟩:=jf.1 h;refine⟨b,a[b],rfl,ga e,?_,f⟩;rw[o1];exact⟨f,b,e,rfl,λk i=>by have:=g k i;simpa using this⟩
def SA (b:Mo)(a:Int):(b.ob a=none/\(a<0\/(b.objs.length:Int)<=a))\/∃ (d:Nat) (x:Ob),a=d/\b.objs[d]? = some x/\b.ob a=some x:=by
 unfold Mo.ob
 by_cases h:a<0
 ·rw[fL h];exact .inl ⟨rfl,.inl h⟩
 ·rw[fK h]
  cases c:b.objs[a.toNat]? with
  | none=>
   left;refine⟨rfl,.inr ?_⟩;have:=mA.1 c;omega
  | some x=>exact .inr ⟨a.toNat,x,by omega,c,rfl⟩
def G8 (b:Pe)(c f:Nat)(e:Pr):Prop:=(∀ a d,e.h[a]? = some d->b.cell? (O7 c (f * 5+a))=some d)/\c<b.heap.size/\∀ a,b.frozen? (O7 c a)=false
def nL {j:Nat}{w:Pe}{m:Px}{a:List Pr}(c:w.ownsRow j 207 5 m a.length (a.flatMap Pr.h)){d:Nat}{i:Pr}(f:a[d]? = some i) :
  ∃ b e,m=.slice (some (O7 b 0)) a.length e/\d<a.length/\G8 w b d i/\j<=b:=by
 have n:d<a.length:=(gr.1 f).1
 rcases QY c with ⟨_,q⟩|⟨b,e,rfl⟩
 ·omega
 ·refine⟨b,e,rfl,n,⟨λk r g=>?_,(c.lt b rfl).2,c.frozenAt⟩,(c.lt b rfl).1⟩;have o:k<5:=(gr.1 g).1;rw[c.cellAt _ O9,Yv (a:=5) (λ_=>rfl) a d k o,f];exact g
def wA {H:Nat}{R:List Px}{w:Pe}{g:Mo}{s N:Px}{I X:List Px}(h:HP H R w g s N I X){K:Nat}(S:g.Small K)(ax:K<=1000000000)(i:Int)(c:Py) :
  ∃ L D,Pq 126 #[s,O3 i] w (λz w'=>z=PK (.pointer L)/\w'=w)/\Pq 127 #[.pointer L,Pj c] w (λz w'=>z=PK (.pointer D)/\Pn w w') /\
   ((D=none/\g.gv i c=none)\/∃ (a:Nat) (x:Ob) (f:Nat) (e:Pr) (d v:Nat),i=a/\g.objs[a]? = some x/\fP c x.ps=some f/\x.ps[f]? = some e/\g.gv i c=some e/\D=some (O7 d (f * 5))/\I[a]? = some (.slice (some (O7 d 0)) x.ps.length v)/\∀ q,Pn w q->G8 q d f e):=by
 rcases SA g i with ⟨ah,ai⟩|⟨a,x,rfl,r,F⟩
 ·refine⟨none,none,Zw s _ (QY h.ob.row) i (by simpa using ai) w,arE c w,.inl ⟨rfl,by simp[Mo.gv,ah]⟩⟩
 ·obtain⟨d,v,m,U,O,W,T,aj,aG,aC,ay,_⟩:=h.ob.at_ (i:=a) (e:=x.h) (by simp[r]);have aI:=S.ps x (gt r);have ac:w.cell? (O7 d (a * 2+1))=some m:=T 1 m rfl;have o:w.ownsRow H 207 5 m x.ps.length (x.ps.flatMap Pr.h):=aj;refine⟨some (O7 d (a * 2)),mc 5 m (fP c x.ps),?_,vN d (a * 2) m x.ps H c w ac o O9,?_⟩
  ·rw[U];exact q6 d v _ a O w
  ·rcases WX (λe=>iw c e.name) x.ps with ⟨n,k⟩|⟨f,e,n,k,ad,_⟩
   ·left;refine⟨?_,by simp[Mo.gv,F,k]⟩;rw[show fP c x.ps=none from n];exact Zx _ _
   ·right;obtain⟨ak,am,rfl,aD,aJ,au⟩:=nL o k;refine⟨a,x,f,e,ak,am,rfl,r,n,k,by simp[Mo.gv,F,ad],?_,W,λq P=>?_⟩
    ·rw[show fP c x.ps=some f from n];rfl
    ·obtain⟨aF,ap,A,_,M,_⟩:=nL (Qg o P) k;exact EJ
def QF (b:Mo)(a:Int):(b.ro a=none/\(a<0\/(b.Pz.length:Int)<=a))\/∃ (d:Nat) (x:Ro),a=d/\b.Pz[d]? = some x/\b.ro a=some x:=by
 unfold Mo.ro
 by_cases h:a<0
 ·rw[fL h];exact .inl ⟨rfl,.inl h⟩
 ·rw[fK h]
  cases c:b.Pz[a.toNat]? with
  | none=>
   left;refine⟨rfl,.inr ?_⟩;have:=mA.1 c;omega
  | some x=>exact .inr ⟨a.toNat,x,by omega,c,rfl⟩
def KS (b:Pe)(c f:Nat)(e:Ce):Prop:=(∀ a d,e.h[a]? = some d->b.cell? (O7 c (f * 6+a))=some d)/\c<b.heap.size/\∀ a,b.frozen? (O7 c a)=false
def oD {j:Nat}{w:Pe}{m:Px}{a:List Ce}(c:w.ownsRow j 262 6 m a.length (a.flatMap Ce.h)){d:Nat}{i:Ce}(f:a[d]? = some i) :
  ∃ b e,m=.slice (some (O7 b 0)) a.length e/\d<a.length/\KS w b d i/\j<=b:=by
 have n:d<a.length:=(gr.1 f).1
 rcases QY c with ⟨_,q⟩|⟨b,e,rfl⟩
 ·omega
 ·refine⟨b,e,rfl,n,⟨λk r g=>?_,(c.lt b rfl).2,c.frozenAt⟩,(c.lt b rfl).1⟩;have o:k<6:=(gr.1 g).1;rw[c.cellAt _ O9,Yv (a:=6) (λ_=>rfl) a d k o,f];exact g
def ZP {H:Nat}{R:List Px}{w:Pe}{g:Mo}{W r:Px}{am F:List Px}(h:HP H R w g W r am F){K:Nat}(P:g.Small K)(ax:K<=1000000000)(i:Int)(c:Py) :
  ∃ L D,Pq 122 #[r,O3 i] w (λz w'=>z=PK (.pointer L)/\w'=w)/\Pq 123 #[.pointer L,Pj c] w (λz w'=>z=PK (.pointer D)/\Pn w w') /\
   ((D=none/\g.ic i c=none)\/∃ (a:Nat) (x:Ro) (f:Nat) (e:Ce) (d v:Nat),i=a/\g.Pz[a]? = some x/\fC c x.cs=some f/\x.cs[f]? = some e/\g.ic i c=some e/\D=some (O7 d (f * 6))/\F[a]? = some (.slice (some (O7 d 0)) x.cs.length v)/\∀ q,Pn w q->KS q d f e):=by
 rcases QF g i with ⟨ad,ah⟩|⟨a,x,rfl,s,I⟩
 ·refine⟨none,none,Yx r _ (QY h.ro.row) i (by simpa using ah) w,NM c w,.inl ⟨rfl,by simp[Mo.ic,ad]⟩⟩
 ·obtain⟨d,v,m,T,N,U,S,ai,aG,aC,ay,_⟩:=h.ro.at_ (i:=a) (e:=x.h) (by simp[s]);have aI:=P.cs x (gt s);have X:w.cell? (O7 d (a * 3+2))=some m:=S 2 m rfl;have o:w.ownsRow H 262 6 m x.cs.length (x.cs.flatMap Ce.h):=ai;refine⟨some (O7 d (a * 3)),mc 6 m (fC c x.cs),?_,wB d (a * 3) m x.cs H c w X o O9,?_⟩
  ·rw[T];exact ra d v _ a N w
  ·rcases WX (λe=>iw c e.name) x.cs with ⟨n,k⟩|⟨f,e,n,k,ac,_⟩
   ·left;refine⟨?_,by simp[Mo.ic,I,k]⟩;rw[show fC c x.cs=none from n];exact Zx _ _
   ·right;obtain⟨aj,ak,rfl,aD,aJ,au⟩:=oD o k;refine⟨a,x,f,e,aj,ak,rfl,s,n,k,by simp[Mo.ic,I,ac],?_,U,λq O=>?_⟩
    ·rw[show fC c x.cs=some f from n];rfl
    ·obtain⟨aF,ap,A,_,M,_⟩:=oD (Qg o O) k;exact EJ
variable {H K:Nat}{R P O:List Px}{c:Mo}{D n:Px}
section
variable (h:HP H R w c D n P O) (a:Int)
include h a
def y0:Pq 125 #[hP H,O3 a] w λi w'=>i=PK (O3 (c.SI a))/\w'=w:=by
 obtain⟨F,I,k,L,M⟩:=h.c;unfold hP
 rcases QF c a with ⟨q,r⟩|⟨d,x,rfl,m,o⟩
 ·have s:=Yx n _ (QY h.ro.row) a (by simpa using r) w;rw[show c.SI a = -1 by simp[Mo.SI,q]];clear h;go_enter func125,ntmps125;exact pX
 ·have b{G}(h:G:=by
  have A:w.cell? (O7 g (d * 3+1))=some (O3 x.f6):=e 1 _ rfl;rw[show c.SI d=x.f6 by simp[Mo.SI,o]];clear h e f;go_enter func125,ntmps125;exact pX):=O6 h;exact A2
def B8:Pq 252 #[hP H,O3 a] w λi w'=>i=PK (O3 (c.hA a))/\w'=w:=by
 obtain⟨F,I,k,L,M⟩:=h.c;unfold hP
 rcases QF c a with ⟨q,r⟩|⟨d,x,rfl,m,o⟩
 ·have s:=Yx n _ (QY h.ro.row) a (by simpa using r) w;rw[show c.hA a = -1 by simp[Mo.hA,q]];clear h;go_enter func252,ntmps252;exact pX
 ·have b{G}(h:G:=by
  have A:w.cell? (O7 g (d * 3))=some (O3 x.outer):=e 0 _ rfl;rw[show c.hA d=x.outer by simp[Mo.hA,o]];clear h e f;go_enter func252,ntmps252;exact pX):=O6 h;exact A2
def Ze:Pq 209 #[hP H,O3 a] w λi w'=>i=PK (O3 (c.gn a))/\w'=w:=by
 obtain⟨L,M,k,N,T⟩:=h.c;unfold hP
 rcases SA c a with ⟨r,z⟩|⟨d,x,rfl,o,q⟩
 ·have s:=Zw D _ (QY h.ob.row) a (by simpa using z) w;rw[show c.gn a=0 by simp[Mo.gn,r]];clear h;go_enter func209,ntmps209;exact pX
 ·obtain⟨g,v,W,e,m,F,f,U,S,A,k,_⟩:=h.ob.at_ (i:=d) (e:=x.h) (by simp[o]);have s:=q6 g v _ d m w;rw[<-e] at s;have I:w.cell? (O7 g (d * 2))=some (O3 x.code):=f 0 _ rfl;rw[show c.gn d=x.code by simp[Mo.gn,q]];clear h f e;go_enter func209,ntmps209;exact pX
end
section
variable (h:HP H R w c D n P O) (k:c.Small K) (e:K<=1000000000)
include h k e
def jQ (o:Int)(m:Py) :
  Pq 124 #[hP H,O3 o,Pj m] w λf w'=>f=PK (.tuple #[rK (c.gv o m),Pv (c.gv o m).isSome])/\Pn w w':=by
 obtain⟨ai,aj,U,ak,am⟩:=h.c;have N:Pn w (w.alloc vZ):=QJ;obtain⟨ay,aC,s,z,I⟩:=wA (h.fH N) k e o m;unfold vZ at s z;unfold hP;clear h
 rcases I with ⟨rfl,a⟩|⟨ap,x,ax,L,ah,W,rfl,_,_,_,a,rfl,_,F⟩
 ·rw[a];clear a;go_enter func124,ntmps124;have b{G}(h:G:=by
  obtain⟨A,q,v,S,T⟩:=Yy (d.mono P7);have b{G}(h:G:=by
  go_wp2_with fail;refine hf (v:=.tuple #[vT,Pv false]) (by simp[results,results124,go_sem,vT,A,q,v]) rfl ⟨rfl,?_⟩;exact hj r Qp _ _ _):=O6 h;exact oj):=O6 h;exact o7
 ·rw[a];clear a;have M:=Y F;clear F;go_enter func124,ntmps124;have b{G}(h:G:=by
  obtain⟨i,X,_⟩:=M.out g d;have ac:=i 1 _ rfl;have ad:=i 2 _ rfl;have au:=i 3 _ rfl;obtain⟨A,q,v,S,T⟩:=Yy (d.mono P7);have b{G}(h:G:=by
  clear i;go_wp2_with fail;refine hf (v:=.tuple #[rK (some L),Pv true]) (by simp[results,results124,go_sem,rK,A,q,v]) rfl ⟨rfl,?_⟩;exact hj r Qp _ _ _):=O6 h;exact oj):=O6 h;exact o7
def sI (o:Int)(m:Py) :
  Pq 353 #[hP H,O3 o,Pj m] w λf w'=>f=PK (O3 (c.kindOf o m))/\Pn w w':=by
 obtain⟨S,T,F,U,W⟩:=h.c;obtain⟨ah,ai,s,z,v⟩:=ZP h k e o m;unfold hP Mo.kindOf;clear h
 rcases v with ⟨rfl,i⟩|⟨X,x,ac,I,N,L,rfl,_,_,_,i,rfl,_,q⟩
 ·rw[i];clear i;go_enter func353,ntmps353;exact Kq
 ·rw[i];clear i;have A:=Y q;clear q;go_enter func353,ntmps353;have b{G}(h:G:=by
  obtain⟨r,M,_⟩:=A.out g d;have ad:=r 4 _ rfl;have a:=d;clear r;go_wp2;go_ret;exact⟨rfl,a⟩):=O6 h;exact o7
def Je (b:Int)(a:Py)(d:c.gv b a=none) :
  Pq 124 #[PL H 0,O3 b,Pj a] w λf w'=>f=PK (.tuple #[.agg #[O3 0,O3 0,Qn],Pv false])/\Pn w w':=by
 have:=jQ h k e b a;rw[d] at this;exact this
def Ec (d:Int)(b:Py){a:Pr}(f:c.gv d b=some a) :
  Pq 124 #[PL H 0,O3 d,Pj b] w λg w'=>g=PK (.tuple #[.agg #[O3 a.v.k,O3 a.v.n,Pj a.v.s],Pv true])/\Pn w w':=by
 have:=jQ h k e d b;rw[f] at this;exact this
def Zy (i:Int)(m:Py) :
  Pq 55 #[PL H 0,O3 i,Pj m] w λf w'=>f=PK (Pv (c.has i m))/\Pn w w':=by
 obtain⟨ac,ad,S,ah,ai⟩:=h.c;obtain⟨ap,au,s,z,I⟩:=ZP h k e i m;unfold Mo.has
 rcases I with ⟨rfl,o⟩|⟨aj,x,ak,U,X,W,rfl,_,_,_,o,rfl,_,L⟩
 ·rw[o];clear o;have b{G}(h:G:=by
  rw[<-q];clear q
  cases r:c.gv A m with
  | none=>
   have F:Hid (∀ g,Pn w g->_):=λg d=>Je (h.fH d) k e A m r;exact KR
  | some am=>
   have F:Hid (∀ g,Pn w g->_):=λg d=>Ec (h.fH d) k e A m r;exact KR):=O6 h;exact v8
 ·rw[o];clear o L;go_enter func55,ntmps55;exact Kq
end
inductive Mo.ik (M:Mo) (nm:Py):Int->Int->Prop where
 | out (i:Int) (h:M.ro i=none):Mo.ik M nm i (-1)
 | here (i:Nat) (x:Ro) (h:M.Pz[i]? = some x) (hh:M.has i nm=true):Mo.ik M nm i i
 | on (i:Nat) (x:Ro) (r:Int) (h:M.Pz[i]? = some x) (hh:M.has i nm=false) (aH:x.outer<i) (U:Mo.ik M nm x.outer r):Mo.ik M nm i r
def LS {c:Mo}{a:Nat}{x:Ro}(h:c.Pz[a]? = some x):c.ro a=some x:=by simp[Mo.ro,h]
def aAa {c:Mo}{a:Nat}{x:Ob}(h:c.objs[a]? = some x):c.ob a=some x:=by simp[Mo.ob,h]
def r9 (h:HP H R w c D n P O)(a:Nat)(x:Ro)(g:c.Pz[a]? = some x):∃ d:Addr,Pq 122 #[n,O3 (a:Int)] w λk w'=>k=PK (.pointer (some d))/\w'=w:=by
 obtain⟨m,i,A,e,f,s,r,z,v,q,o,_⟩:=h.ro.at_ (i:=a) (e:=x.h) (by simp[g]);have b:=ra m i _ a f w;rw[<-e] at b;exact⟨_,b⟩
def VV (h:HP H R w c D n P O)(S:c.Small K)(N:K<=1000000000)(z M:Int)(s:Py)(ah:c.ik s z M) :
  Pq 195 #[PL H 0,O3 z,Pj s] w λd w'=>d=PK (O3 M)/\Pn w w':=by
 have T:=h;clear h;go_enter func195,ntmps195;go_wp2_with fail
 go_loopw [1] (λL wr=>∃ a:Int,L=O3 a/\c.ik s a M/\Pn w wr) (λL _=>(intOf L+1).toNat)
 case atStart=>exact⟨z,rfl,ah,RP⟩
 case round=>
  obtain⟨a,rfl,W,k⟩:=hrel;have f:=T.fH k;obtain⟨aj,ak,_,_,am⟩:=f.c
  cases W with
  | out _ m=>
   have I:a<0\/(c.Pz.length:Int)<=a:=by
    rcases QF c a with ⟨_,h⟩|⟨z,x,rfl,_,h⟩
    ·exact h
    ·rw[m] at h;cases h
   have i:=Yx n _ (QY f.ro.row) a (by simpa using I) wr;clear I m;have b{G}(h:G:=by
   go_wp2;go_ret;exact⟨rfl,k⟩):=O6 h;exact mj
  | here e x g q=>
   obtain⟨ad,A⟩:=r9 f e x g;have i:=A;have o:=Zy f S N e s;rw[q] at o;clear q g;have b{G}(h:G:=by
   go_wp2_with fail;refine cm o ?_;rintro d r ⟨rfl,v⟩;have F:=k.trans (v.mono k.size);go_wp2;go_ret;exact⟨rfl,F⟩):=O6 h;exact mj
  | on e x _ g q m X=>
   obtain⟨ad,A⟩:=r9 f e x g;have i:=A;have o:=Zy f S N e s;rw[q] at o;have I:=Y (λac ai=>B8 (f.fH (w':=ac) ai) e);rw[show c.hA e=x.outer by simp[Mo.hA,LS g]] at I;unfold hP at I;have U:=Y m;clear q g m;have b{G}(h:G:=by
   go_wp2_with fail;refine cm o ?_;rintro d r ⟨rfl,v⟩;have ac:=I.out r v;have F:=k.trans (v.mono k.size);go_wp2_with fail;refine cm ac ?_;rintro d ai ⟨rfl,rfl⟩;go_wp2
   go_roundw
   case rel=>exact⟨x.outer,rfl,X,F⟩
   case measure=>
    have:=U.out;simp[intOf];omega):=O6 h;exact mj
def U4 (a:Int):Px:=if a=0 then .nilIface else .iface 34 (O3 a)
def FR {b:Pe}{a:Nat}{o k m d e f:Px}(g:Obj)(v:b.cell? (O7 a 0)=some o)(r:b.cell? (O7 a 1)=some k)(s:b.cell? (O7 a 2)=some m)(q:a<b.heap.size) :
  ((((b.setCell (O7 a 0) d).setCell (O7 a 1) e).setCell (O7 a 2) f).alloc g).cell? (O7 a 0)=some d/\((((b.setCell (O7 a 0) d).setCell (O7 a 1) e).setCell (O7 a 2) f).alloc g).cell? (O7 a 1)=some e/\((((b.setCell (O7 a 0) d).setCell (O7 a 1) e).setCell (O7 a 2) f).alloc g).cell? (O7 a 2)=some f:=by
 have i:a<(((b.setCell (O7 a 0) d).setCell (O7 a 1) e).setCell (O7 a 2) f).heap.size:=by simpa using q
 refine⟨?_,?_,?_⟩
 all_goals
  rw[hb _ _ _ (by exact i)];go_simp
section
variable (h:HP H R w c D n P O) (k:c.Small K) (e:K<=1000000000)
include h k e
def arN (m:Int)(a:Py)(f:c.gv m a=none) :
  Pq 313 #[PL H 0,O3 m,Pj a] w λg w'=>g=PK (.tuple #[.agg #[O3 0,O3 0,Qn],.iface 34 (O3 7)])/\Pn w w':=by
 have I:Pn w (w.alloc vZ):=QJ;have q:=Je (h.fH I) k e m a f;have b{G}(h:G:=by
 have b{G}(h:G:=by
 go_wp2_with fail;obtain⟨A,o,F⟩:=FR (d:=O3 0) (e:=O3 0) (f:=Qn) (.cells #[O3 0,O3 0,Qn] 65) z s v i;refine hf (v:=.tuple #[.agg #[O3 0,O3 0,Qn],.iface 34 (O3 7)]) (by simp[results,results313,go_sem,A,o,F]) rfl ⟨rfl,?_⟩;exact(hj r Qp _ _ _).alloc (by simpa using P6 i) _):=O6 h;exact oj):=O6 h;exact GU
def Od (o:Int)(m:Py){a:Pr}(f:c.gv o m=some a) :
  Pq 313 #[PL H 0,O3 o,Pj m] w λg w'=>g=PK (.tuple #[.agg #[O3 a.v.k,O3 a.v.n,Pj a.v.s],QW])/\Pn w w':=by
 have L:Pn w (w.alloc vZ):=QJ;have q:=Ec (h.fH L) k e o m f;have b{G}(h:G:=by
 have b{G}(h:G:=by
 go_wp2_with fail;obtain⟨F,A,I⟩:=FR (d:=O3 a.v.k) (e:=O3 a.v.n) (f:=Pj a.v.s) (.cells #[O3 a.v.k,O3 a.v.n,Pj a.v.s] 65) z s v i;refine hf (v:=.tuple #[.agg #[O3 a.v.k,O3 a.v.n,Pj a.v.s],QW]) (by simp[results,results313,go_sem,F,A,I]) rfl ⟨rfl,?_⟩;exact(hj r Qp _ _ _).alloc (by simpa using P6 i) _):=O6 h;exact oj):=O6 h;exact GU
def AW (i:Int)(m:Py)(S:c.ic i m=none)(v:Px)(ad ac:Int)(W:Py)(ax:v=.agg #[O3 ad,O3 ac,Pj W])(F:Px)(M:∀ a,Pn w a->Pq 313 #[PL H 0,O3 (c.SI i),Pj m] a λf w'=>f=PK (.tuple #[v,F])/\Pn a w') :
  Pq 290 #[PL H 0,O3 i,Pj m] w λf w'=>f=PK (.tuple #[v,F])/\Pn w w':=by
 obtain⟨aJ,aK,aC,aL,aN⟩:=h.c;have au:Pn w (w.alloc vZ):=QJ;obtain⟨aU,aV,s,z,ai⟩:=ZP (h.fH au) k e i m;have b{G}(h:G:=by
 rw[<-q] at M;have ah:=Y M;unfold vZ at s z;clear h M q
 rcases ai with ⟨rfl,a⟩|⟨aO,x,aQ,aF,aI,aG,rfl,_,_,_,a,rfl,_,aD⟩
 ·clear a S;subst ax;go_enter func290,ntmps290;have b{G}(h:G:=by
  have b{G}(h:G:=by
  obtain⟨N,I,L,X,aS⟩:=Yy (d.mono P7);have am:Hid (∀ o,Pn g o->Below (w.heap.size+1) (w.alloc (.cells #[O3 0,O3 0,Qn] 65)) o):=λo aj=>(d.mono P7).trans (aj.mono O9);clear N I L X;go_wp2_with fail;refine cm (T.out g r) ?_;rintro f o ⟨rfl,rfl⟩;go_wp2_with fail;refine cm (ah.out _ r) ?_;rintro f ak ⟨rfl,U⟩;obtain⟨N,I,L,X,ay⟩:=Yy (am.out ak U);have ap:=r.trans (U.mono r.size);go_wp2_with fail
  refine hf (v:=.tuple #[.agg #[O3 ad,O3 ac,Pj W],F]) (by simp[results,results290,go_sem,N,I,L]) rfl ⟨rfl,?_⟩;exact hj ap Qp _ _ _):=O6 h;exact oj):=O6 h;exact o7
 ·rw[S] at a;cases a):=O6 h;exact v8
def arO (o:Int)(m:Py){a:Ce}(g:c.ic o m=some a) :
  Pq 290 #[PL H 0,O3 o,Pj m] w λi w'=>i=PK (if a.ready then .tuple #[.agg #[O3 a.v.k,O3 a.v.n,Pj a.v.s],QW] else .tuple #[.agg #[O3 0,O3 0,Qn],.iface 34 (O3 6)])/\Pn w w':=by
 obtain⟨ak,am,U,ap,au⟩:=h.c;have N:Pn w (w.alloc vZ):=QJ;obtain⟨aF,aG,z,F,I⟩:=ZP (h.fH N) k e o m;unfold vZ at z F;clear h
 rcases I with ⟨rfl,b⟩|⟨ax,x,aC,ad,aj,W,rfl,_,_,_,b,rfl,_,q⟩
 ·rw[g] at b;cases b
 ·rw[g] at b;cases b;clear g;have M:=Y q;clear q
  cases L:a.ready
  all_goals
   go_enter func290,ntmps290;go_wp2_with fail;refine cm z ?_;rintro i w' ⟨rfl,rfl⟩;go_wp2_with fail;refine cm F ?_;rintro i T ⟨rfl,f⟩;obtain⟨d,X,_⟩:=M.out T f;have ac:=d 1 _ rfl;have ah:=d 2 _ rfl;have ay:=d 3 _ rfl;have S:=d 5 _ rfl;rw[L] at S;obtain⟨A,r,v,ai,aD⟩:=Yy (f.mono P7);have s:=((f2 _ w).alloc Qp _).trans (f.mono P7);clear d;go_wp2_with fail
  ·refine hf (v:=.tuple #[.agg #[O3 0,O3 0,Qn],.iface 34 (O3 6)]) (by simp[results,results290,go_sem,A,r,v]) rfl ⟨rfl,?_⟩;exact hj s Qp _ _ _
  ·refine hf (v:=.tuple #[.agg #[O3 a.v.k,O3 a.v.n,Pj a.v.s],QW]) (by simp[results,results290,go_sem,A,r,v]) rfl ⟨rfl,?_⟩;exact hj s Qp _ _ _
end
end
def Th:List TypeId:=[84,185,207,198,262]
def Mo.Uh (a:Mo)(b:Nat)(x:Ob):Mo:=⟨a.objs.set b x,a.Pz⟩
def Mo.Tj (a:Mo)(b:Nat)(x:Ro):Mo:=⟨a.objs,a.Pz.set b x⟩
def PD {e a g:Pe}{c:Option Nat}(h:e.grownBy a c)(b:a.grownBy g c):e.grownBy g c:=
 ⟨b.os.trans h.os,b.tape.trans h.tape,b.output.trans h.output,f9 h.size b.size,λi f d=>(b.block i (hn f h.size) d).trans (h.block i f d)⟩
section
variable {H:Nat} {R:List Px} {w g:Pe} {f:Mo} {o m:Px} {p q:List Px}
def HP.Ho (h:HP H R w f o m p q){objs:List Ob}{b:List Px}(c:Tb H 185 2 207 5 g o (objs.map Ob.h) b)(a:Ql [185,207] H w g):HP H R g ⟨objs,f.Pz⟩ o m b q/\Ql Th H w g:=
 ⟨⟨a.rest H _ 84 h.gw Pm,c,h.ro.fR a Pm Pm⟩,a.mono Pm Qp⟩
def HP.y6 (h:HP H R w f o m p q){a:List Ro}{c:List Px}(d:Tb H 198 3 262 6 g m (a.map Ro.h) c)(b:Ql [198,262] H w g):HP H R g ⟨f.objs,a⟩ o m p c/\Ql Th H w g:=
 ⟨⟨b.rest H _ 84 h.gw Pm,h.ob.fR b Pm Pm,d⟩,b.mono Pm Qp⟩
def I8:∀ (d:List Pr) (a:Nat) (c:Pr) (b:Va),d[a]? = some c ->
  (((d.flatMap Pr.h).set (a * 5+1) (O3 b.k)).set (a * 5+2) (O3 b.n)).set (a * 5+3) (Pj b.s)=(d.set a ⟨c.name,b,c.fixed⟩).flatMap Pr.h
 | [],a,c,b,h=>by simp at h
 | i::d,0,c,b,h=>by
  simp at h;subst h;simp[Pr.h]
 | i::d,a+1,c,b,h=>by
  have:=I8 d a c b (by simpa using h);have j:∀ e,(a+1) * 5+e=a * 5+e+1+1+1+1+1:=λe=>by omega
  simp only[j,kh,hL,Pr.h,hS,hR] at this ⊢;rw[this]
def AZ:∀ (d:List Ce) (a:Nat) (b:Ce) (c:Va),d[a]? = some b ->
  (((d.flatMap Ce.h).set (a * 6+1) (O3 c.k)).set (a * 6+2) (O3 c.n)).set (a * 6+3) (Pj c.s)=(d.set a ⟨b.name,c,b.kind,b.ready⟩).flatMap Ce.h
 | [],a,b,c,h=>by simp at h
 | i::d,0,b,c,h=>by
  simp at h;subst h;simp[Ce.h]
 | i::d,a+1,b,c,h=>by
  have:=AZ d a b c (by simpa using h);have j:∀ e,(a+1) * 6+e=a * 6+e+1+1+1+1+1+1:=λe=>by omega
  simp only[j,kh,hL,Ce.h,hS,hR] at this ⊢;rw[this]
def IX:∀ (d:List Ce) (a:Nat) (c:Ce) (b:Va) (e:Bool),d[a]? = some c ->
  ((((d.flatMap Ce.h).set (a * 6+1) (O3 b.k)).set (a * 6+2) (O3 b.n)).set (a * 6+3) (Pj b.s)).set (a * 6+5) (Pv e)=(d.set a ⟨c.name,b,c.kind,e⟩).flatMap Ce.h
 | [],a,c,b,e,h=>by simp at h
 | j::d,0,c,b,e,h=>by
  simp at h;subst h;simp[Ce.h]
 | j::d,a+1,c,b,e,h=>by
  have:=IX d a c b e (by simpa using h);have k:∀ i,(a+1) * 6+i=a * 6+i+1+1+1+1+1+1:=λi=>by omega
  simp only[k,kh,hL,Ce.h,hS,hR] at this ⊢;rw[this]
def HP.aLC (h:HP H R w f o m p q){e:Nat}{x:Ob}(t:f.objs[e]? = some x){c A D:Nat}(k:p[e]? = some (.slice (some (O7 c 0)) D A)){a:Nat}{d:Pr}(i:x.ps[a]? = some d)(b:Va) :
  HP H R (((w.setCell (O7 c (a * 5+1)) (O3 b.k)).setCell (O7 c (a * 5+2)) (O3 b.n)).setCell (O7 c (a * 5+3)) (Pj b.s)) (f.Uh e ⟨x.code,x.ps.set a ⟨d.name,b,d.fixed⟩⟩) o m p q /\
  Ql Th H w (((w.setCell (O7 c (a * 5+1)) (O3 b.k)).setCell (O7 c (a * 5+2)) (O3 b.n)).setCell (O7 c (a * 5+3)) (Pj b.s)):=by
 have s:(f.objs.map Ob.h)[e]? = some x.h:=by simp[t]
 have r:w.ownsRow H 207 5 _ x.ps.length (x.ps.flatMap Pr.h):=h.ob.own e x.h _ s k;obtain⟨F,E,n,_⟩:=nL r i;simp only[g7,hc,iL,js] at n;obtain⟨rfl,rfl,rfl⟩:=n;obtain⟨z,v⟩:=r.stored (a * 5+1) (O3 b.k);obtain⟨B,u⟩:=z.stored (a * 5+2) (O3 b.n);obtain⟨l,C⟩:=B.stored (a * 5+3) (Pj b.s);rw[I8 x.ps a d b i] at l;have j:=h.ob.bump (P6 (gz h.gw)) s k (PD (PD v u) C) l
 refine h.Ho (objs:=f.objs.set e ⟨x.code,x.ps.set a ⟨d.name,b,d.fixed⟩⟩) ?_ (j.2.mono Pm Qp);rw[kn];have:=j.1;simpa[Ob.h] using this
section
variable (h:HP H R w f o m p q) {e:Nat} {x:Ro} (E:f.Pz[e]? = some x) {c C D:Nat} (k:q[e]? = some (.slice (some (O7 c 0)) D C)) {a:Nat} {d:Ce} (j:x.cs[a]? = some d) (b:Va)
include h e x E c C D k a d j b
def HP.Qt :
  HP H R (((w.setCell (O7 c (a * 6+1)) (O3 b.k)).setCell (O7 c (a * 6+2)) (O3 b.n)).setCell (O7 c (a * 6+3)) (Pj b.s)) (f.Tj e ⟨x.outer,x.f6,x.cs.set a ⟨d.name,b,d.kind,d.ready⟩⟩) o m p q /\
  Ql Th H w (((w.setCell (O7 c (a * 6+1)) (O3 b.k)).setCell (O7 c (a * 6+2)) (O3 b.n)).setCell (O7 c (a * 6+3)) (Pj b.s)):=by
 have B{G}(h:G:=by
 rw[AZ x.cs a d b j] at l;have i:=h.ro.bump (P6 (gz h.gw)) n k (PD (PD z v) A) l;refine h.y6 (a:=f.Pz.set e ⟨x.outer,x.f6,x.cs.set a ⟨d.name,b,d.kind,d.ready⟩⟩) ?_ (i.2.mono Pm Qp);rw[kn];have:=i.1;simpa[Ro.h] using this):=O6 h;exact E7
def HP.aFp (i:Bool) :
  HP H R ((((w.setCell (O7 c (a * 6+1)) (O3 b.k)).setCell (O7 c (a * 6+2)) (O3 b.n)).setCell (O7 c (a * 6+3)) (Pj b.s)).setCell (O7 c (a * 6+5)) (Pv i)) (f.Tj e ⟨x.outer,x.f6,x.cs.set a ⟨d.name,b,d.kind,i⟩⟩) o m p q /\
  Ql Th H w ((((w.setCell (O7 c (a * 6+1)) (O3 b.k)).setCell (O7 c (a * 6+2)) (O3 b.n)).setCell (O7 c (a * 6+3)) (Pj b.s)).setCell (O7 c (a * 6+5)) (Pv i)):=by
 have B{G}(h:G:=by
 obtain⟨s,F⟩:=l.stored (a * 6+5) (Pv i);rw[IX x.cs a d b i j] at s;have r:=h.ro.bump (P6 (gz h.gw)) n k (PD (PD (PD z v) A) F) s;refine h.y6 (a:=f.Pz.set e ⟨x.outer,x.f6,x.cs.set a ⟨d.name,b,d.kind,i⟩⟩) ?_ (r.2.mono Pm Qp);rw[kn];have:=r.1;simpa[Ro.h] using this):=O6 h;exact E7
end
variable {K:Nat}
abbrev vA (a:Va):Px:=.agg #[O3 a.k,O3 a.n,Pj a.s]
abbrev vO (a:Va):Obj:=.cells #[O3 a.k,O3 a.n,Pj a.s] 65
def PA (h:HP H R w f o m p q)(v:f.Small K)(t:K<=1000000000)(k:Int)(e:Py)(a:Va)(l:f.ic k e=none) :
  Pq 198 #[PL H 0,O3 k,Pj e,.agg #[O3 a.k,O3 a.n,Pj a.s]] w λi j=>i=PK (.iface 34 (O3 7))/\Pn w j:=by
 have b{G}(h:G:=by
 obtain⟨L,M,n,s,u⟩:=ZP (h.fH z) v t k e;unfold vO at n s;clear h
 rcases u with ⟨rfl,c⟩|⟨F,x,I,D,E,C,rfl,_,_,_,c,rfl,_,A⟩
 ·clear c l;go_enter func198,ntmps198;exact DR
 ·rw[l] at c;cases c):=O6 h;exact pT
def qK {b a i:Nat}{x:Ro}(h:HP H R w f o m p q)(d:f.Pz[a]? = some x)(c:q[a]? = some (.slice (some (O7 b 0)) x.cs.length i)):∃ e,w.heap[b]? = some (PZ e 262):=
 QM (h.ro.own a x.h _ (by simp[d]) c) rfl
def alj (h:HP H R w f o m p q)(T:f.Small K)(P:K<=1000000000)(i:Nat)(x:Ro)(j:f.Pz[i]? = some x)(c:Py)(a:Va)(v:Nat)(d:Ce)(e:fC c x.cs=some v)(l:x.cs[v]? = some d) :
  Pq 198 #[PL H 0,O3 (i:Int),Pj c,.agg #[O3 a.k,O3 a.n,Pj a.s]] w λu s=>u=PK QW/\HP H R s (f.Tj i ⟨x.outer,x.f6,x.cs.set v ⟨d.name,a,d.kind,true⟩⟩) o m p q/\Ql Th H w s:=by
 have b{G}(h:G:=by
 obtain⟨aQ,aS,E,I,S⟩:=ZP (h.fH z) T P i c;unfold vO at E I;have N:f.ic i c=some d:=AD
 rcases S with ⟨rfl,r⟩|⟨aj,am,O,ak,ah,au,U,A,F,L,r,rfl,t,C⟩
 ·rw[N] at r;cases r
 ·obtain rfl:i=aj:=O9;rw[j] at A;cases A;rw[e] at F;cases F;rw[l] at L;cases L;obtain⟨aN,M⟩:=qK (h.fH z) j t;have aU:ah≠w.heap.size:=RG M (hD w _) Pm;have ac:=Y C;have W:=Y t;have ad:=Y j;have ai:=Y l;clear C t r N U e j l M;go_enter func198,ntmps198;go_wp2_with fail;refine cm E ?_;rintro u s ⟨rfl,rfl⟩;go_wp2_with fail;refine cm I ?_;rintro u g ⟨rfl,n⟩;obtain⟨k,ay,aK⟩:=ac.out g n;have aD:=k 1 _ rfl;have aG:=k 2 _ rfl;have aJ:=k 3 _ rfl
  have aO:=k 5 _ rfl;obtain⟨aF,ap,ax,aI,aL⟩:=Yy (n.mono P7);have D:=Y (((h.fH z).fH n).aFp ad.out W.out ai.out a true);have X:=((f2 _ w).alloc Qp _).trans (n.mono P7);clear k;go_wp2;go_ret;exact⟨rfl,D.out.1,(Ql.of X (P6 B)).trans D.out.2⟩):=O6 h;exact pT
def Bj:(prog.info? 207).map (λa=>(a.zero,a.size,a.bytes))=some (some (.agg #[Qn,O3 0,O3 0,Qn,Pv false]),5,56):=by kernel_rfl
def alk (w:Pe)(H:Nat)(e:w.heap.size=H)(x:Py)(a:Va)(c:Bool)(b:Nat)(d:Px)(h:([Pj x,O3 a.k,O3 a.n,Pj a.s,Pv c]:List Px)[b]? = some d) :
  (w.alloc (.cells #[Pj x,O3 a.k,O3 a.n,Pj a.s,Pv c] 207)).cell? (Addr.add (O7 H 0) b)=some d:=by
 subst e
 match b,h with
 | 0,h=>simp at h;subst h;simp[Addr.add]
 | 1,h=>simp at h;subst h;simp[Addr.add]
 | 2,h=>simp at h;subst h;simp[Addr.add]
 | 3,h=>simp at h;subst h;simp[Addr.add]
 | 4,h=>simp at h;subst h;simp[Addr.add]
 | i+5,h=>simp at h
def arQ (x:Py)(a:Va)(d:Bool):∀ c ∈ ([Pj x,O3 a.k,O3 a.n,Pj a.s,Pv d]:List Px),c.oneCell'=true:=by
 intro c b;simp at b
 rcases b with rfl|rfl|rfl|rfl|rfl <;> rfl
def HP.Gp (h:HP H R w f o m p q){b:Nat}{x a:Ob}(r:f.objs[b]? = some x){i c:Px}(n:p[b]? = some i){e t:Nat}(j:o=.slice (some (O7 e 0)) (f.objs.map Ob.h).length t)
  (s:w.grownBy g i.ownBlock) (v:g.ownsRow H 207 5 c a.ps.length (a.ps.flatMap Pr.h)) (u:∀ d,c.ownBlock=some d->i.ownBlock=some d\/w.heap.size<=d) (l:a.code=x.code) :
  HP H R (g.setCell (O7 e (b * 2+1)) c) (f.Uh b a) o m (p.set b c) q/\Ql Th H w (g.setCell (O7 e (b * 2+1)) c):=by
 have z:(f.objs.map Ob.h)[b]? = some x.h:=by simp[r]
 have k:=h.ob;rw[j] at k;have d:=k.put (P6 (gz h.gw)) z n s v u;rw[<-j] at d;refine h.Ho (objs:=f.objs.set b a) ?_ d.2;rw[kn];have:=d.1;rw[show a.h=⟨x.h.hd,a.ps.length,a.ps.flatMap Pr.h⟩ by simp[Ob.h,l]];exact this
def awn (h:HP H R w f o m p q)(c:Int)(j:Py)(a:Va)(fx:Bool)(d:f.ob c=none) :
  Pq 56 #[PL H 0,O3 c,Pj j,.agg #[O3 a.k,O3 a.n,Pj a.s],Pv fx] w λi w'=>i=PK (.iface 34 (O3 7))/\Pn w w':=by
 obtain⟨l,n,k,r,t⟩:=h.c;have e:c<0\/(f.objs.length:Int)<=c:=by
  rcases SA f c with ⟨_,h⟩|⟨u,x,rfl,_,h⟩
  ·exact h
  ·rw[d] at h;cases h
 have s:=Zw o _ (QY h.ob.row) c (by simpa using e) (w.alloc (.cells #[O3 a.k,O3 a.n,Pj a.s] 65));clear h e d;go_enter func56,ntmps56;have b{G}(h:G:=by
 go_ret;exact⟨rfl,QJ⟩):=O6 h;exact qR
section
variable (h:HP H R w f o m p q) (ay:f.Small K) (k:K<=1000000000) (n:Nat) (x:Ob) (bN:f.objs[n]? = some x) (l:Py) (a:Va) (fx:Bool)
include h ay k n x bN l a fx
def J1 (I:Nat)(u:Pr)(L:fP l x.ps=some I)(j:x.ps[I]? = some u) :
  Pq 56 #[PL H 0,O3 (n:Int),Pj l,.agg #[O3 a.k,O3 a.n,Pj a.s],Pv fx] w λi w'=>i=PK QW/\HP H R w' (f.Uh n ⟨x.code,x.ps.set I ⟨u.name,a,u.fixed⟩⟩) o m p q/\Ql Th H w w':=by
 have b{G}(h:G:=by
 have b{G}(h:G:=by
 obtain⟨W,aG,rfl,ad,_,_⟩:=nL C j;rw[L] at t;simp only[mc] at t;unfold vO at s t;obtain⟨aI,S⟩:=QM C rfl;have aJ:W≠w.heap.size:=RG S (hD w _) Pm;have T:=Y E;have U:=Y bN;have P:=Y j;clear F L bN j h S E D;go_enter func56,ntmps56;have b{G}(h:G:=by
 refine cm t ?_;rintro i g ⟨rfl,d⟩;obtain⟨au,X,A,_,⟨e,ai,aD⟩,_⟩:=nL (Qg C d) P.out;have b{G}(h:G:=by
 have aj:=e 1 _ rfl;have am:=e 2 _ rfl;have ax:=e 3 _ rfl;obtain⟨ak,ac,ah,ap,aF⟩:=Yy (d.mono P7);have O:=Y ((M.fH d).aLC U.out T.out P.out a);have b{G}(h:G:=by
 clear e;go_wp2;go_ret;exact⟨rfl,O.out.1,(Ql.of r (P6 B)).trans O.out.2⟩):=O6 h;exact oj):=O6 h;exact oJ):=O6 h;exact qR):=O6 h;exact CV):=O6 h;exact pT
def BK (I:fP l x.ps=none) :
  Pq 56 #[PL H 0,O3 (n:Int),Pj l,.agg #[O3 a.k,O3 a.n,Pj a.s],Pv fx] w λi w'=>i=PK QW/\(∃ b,HP H R w' (f.Uh n ⟨x.code,x.ps++[⟨l,a,fx⟩]⟩) o m b q)/\Ql Th H w w':=by
 have b{G}(h:G:=by
 have b{G}(h:G:=by
 rw[I,Zx] at t;have am:=ay.ps x (gt bN);unfold vO at s t;have T:=Y E;have aO:=Y bN;have ak:=Y D;have aZ:=Y (F 1 v rfl);have O:=Y am;obtain⟨a1,aG,aJ,ap,aD⟩:=gY Bj;clear F I bN h E D am;go_enter func56,ntmps56;have b{G}(h:G:=by
 refine cm t ?_;rintro i g ⟨rfl,d⟩;obtain⟨aK,au,aF,aQ,bf⟩:=Yy (d.mono P7);have b{G}(h:G:=by
 have ah:=M.fH d;have a6:=Qg C d;have aI:c<g.heap.size:=hn N d.size;have ai:g.cell? (O7 c (n * 2+1))=some v:=(gD d (a:=(O7 c (n * 2+1))) N).trans aZ.out;have aj:g.frozen? (O7 c (n * 2+1))=false:=(g6 (w:=w.alloc (vO a)) (a:=(O7 c (n * 2+1))) (d.block c N)).trans (a7 _);go_wp2_with fail;refine qe ?_;refine wt 0 (PL c (n * 2)) ?_;refine wt 1 (PL c (n * 2)) ?_;refine wt 2 (PL c (n * 2)) ?_;refine wt 3 (PL c (n * 2+1)) ?_;refine wt 5 (Pj l) ?_
 refine wt 7 (Pv fx) ?_;refine hJ 4 6 (λK k=>?ca) λK k=>?cb
 case' ca=>
  go_simp;refine k _ _ ?_;clear k K;refine wbZ 6 ?_;refine wt 8 (.agg #[Pj l,O3 a.k,O3 a.n,Pj a.s,Pv fx]) ?_;refine wbZ 9 ?_
 case' cb=>
  go_simp;refine k _ _ ?_;clear k K;refine wt 8 (.agg #[Pj l,O3 a.k,O3 a.n,Pj a.s,Pv fx]) ?_;refine hJ 4 9 (λK k=>?cc) λK k=>?cd
 case' cc=>
  go_simp;refine k _ _ ?_;clear k K;refine wbZ 9 ?_
 case' cd=>
  go_simp;refine k _ _ ?_;clear k K;refine wbZ 4 ?_
 all_goals
  refine WL 10 λK k=>?_;refine step_append_lies _ rfl _ _ 183 rfl H 207 a1 _ 5 56 underlying183 aG aJ ap aD rfl Pm _ _ _ rfl (a6.drew.alloc _) (O7 g.heap.size 0) 1 1 [Pj l,O3 a.k,O3 a.n,Pj a.s,Pv fx] rfl rfl (alk _ _ rfl _ _ _) (arQ _ _ _) Pm (by have:=O.out;unfold maxLen;omega) (by have:=O.out;omega) RQ (g.heap.size+1) P7 ?_
  intro aX aW A aV aN ac _;refine k _ _ ?_;clear k K;have U:g.grownBy A v.ownBlock:=PD (PD (a:=g.drew) ⟨rfl,rfl,rfl,Qp,λ_ _ _=>rfl⟩ (hG _ _ _)) aN;have S:=ah.Gp (a:=⟨x.code,x.ps++[⟨l,a,fx⟩]⟩) aO.out T.out ak.out U (c:=.slice (some (O7 aX 0)) (x.ps.length+1) aW) (by rw[jl];simpa[Pr.h] using aV) (λax W=>by cases W;exact ac.imp (λi=>i) (λi=>by rw[i];exact ge _)) rfl
  have ad:=Y S;have aY:A.cell? (O7 c (n * 2+1))=some v/\A.frozen? (O7 c (n * 2+1))=false:=by
   have ax:some c≠v.ownBlock:=λi=>by
    obtain⟨_,_,aS⟩:=ah.ob.nc T.out;exact(aS c i.symm).2.2.1 (by rw[ak.out];rfl)
   have W:=U.block c aI ax;exact⟨(gs (w:=g) (a:=(O7 c (n * 2+1))) W).trans ai,(g6 (w:=g) (a:=(O7 c (n * 2+1))) W).trans aj⟩
  obtain⟨bh,bj⟩:=aY;clear S ac ai aj aK au aF aQ;refine wt 11 (PL c (n * 2)) ?_;refine wt 12 (PL c (n * 2+1)) ?_;refine wbZ 13 ?_;refine ha Qs ?_ _;go_simp;go_wp2;go_ret;exact⟨rfl,⟨_,ad.out.1⟩,(Ql.of r (P6 B)).trans ad.out.2⟩):=O6 h;exact oj):=O6 h;exact qR):=O6 h;exact CV):=O6 h;exact pT
end
def T8 {a:Nat}{x:Ro}(j:f.Pz[a]? = some x){c:Py}{b:Nat}{d:Ce}(e:fC c x.cs=some b)(l:x.cs[b]? = some d):f.ic a c=some d:=AD
def awo {i:Nat}{x:Ob}(l:f.objs[i]? = some x){a:Py}{j:Nat}{c:Pr}(b:fP a x.ps=some j)(k:x.ps[j]? = some c):f.gv i a=some c:=by
 rcases WX (λc=>iw a c.name) x.ps with ⟨d,e⟩|⟨r,s,d,e,n,_⟩
 ·rw[show fP a x.ps=none from d] at b;cases b
 ·rw[show fP a x.ps=some r from d] at b;cases b;rw[k] at e;cases e;simp[Mo.gv,aAa l,n]
section
variable (h:HP H R w f o m p q) (ay:f.Small K) (s:K<=1000000000) (k:Int) (l:Py) (a:Va)
include h ay s k l a
def P4 (e:f.has k l=false) :
  Pq 267 #[PL H 0,O3 k,Pj l,.agg #[O3 a.k,O3 a.n,Pj a.s]] w λi j=>i=PK (.iface 34 (O3 7))/\Pn w j:=by
 have n:Pn w (w.alloc (vO a)):=QJ;have c:=Zy (h.fH n) ay s k l;rw[e] at c;unfold vO at c;clear e;go_enter func267,ntmps267;go_wp2_with fail;refine cm c ?_;exact Gy
def Nw (am:f.ic k l=none)(E:Nat)(x:Ob)(U:f.SI k=E)(W:f.objs[E]? = some x)(N:Nat)(O:Pr)(T:fP l x.ps=some N)(t:x.ps[N]? = some O) :
  Pq 267 #[PL H 0,O3 k,Pj l,.agg #[O3 a.k,O3 a.n,Pj a.s]] w λc D=>c=PK QW/\HP H R D (f.Uh E ⟨x.code,x.ps.set N ⟨O.name,a,O.fixed⟩⟩) o m p q/\Ql Th H w D:=by
 have b{G}(h:G:=by
 have C:=Zy (h.fH z) ay s k l;rw[show f.has k l=true by simp[Mo.has,U,awo W T t]] at C;have aO:Hid (∀ g,Pn w g->Pq 125 #[PL H 0,O3 k] g λc D=>c=PK (O3 E)/\D=g):=λg i=>by rw[<-U];exact y0 (h.fH i) k
 have aI:Hid (∀ g,Pn w g->_):=λg i=>J1 (h.fH i) ay s E x W l a false N O T t;have aD:Hid (∀ g,Pn w g->_):=λg i=>ZP (h.fH i) ay s k l;have aY:=Y B;have aV:=Y am;have aG:=h;unfold vO at C;clear h am U W T t b8 aC;have b{G}(h:G:=by
 obtain⟨aF,aK,_,_,_⟩:=(aG.fH d).c;have aQ:a6=none:=by
  rcases X with ⟨h,_⟩|⟨_,_,_,_,_,_,_,_,_,_,t,_⟩
  ·exact h
  ·rw[aV.out] at t;cases t
 subst aQ;obtain⟨aj,ad,ai,au,aX⟩:=Yy (i.mono P7);have aN:Hid (∀ j,Pn g j->Below (w.heap.size+1) (w.alloc (.cells #[O3 a.k,O3 a.n,Pj a.s] 65)) j):=λj r=>(i.mono P7).trans (r.mono O9);have a1:Hid (∀ j,Pn g j->j.heap[w.heap.size]? = some (PZ #[O3 a.k,O3 a.n,Pj a.s] 65)):=λj r=>((i.mono P7).trans (r.mono (Nat.succ_le_of_lt aX)) |>.block _ (ki _)).trans (hD w _);have be:=hn B d.size;clear X aj ad ai au;go_wp2_with fail;refine cm F ?_;rintro c D ⟨rfl,rfl⟩
 go_wp2_with fail;refine cm I ?_;rintro c j ⟨rfl,r⟩;have ah:=d.trans (r.mono d.size);obtain⟨aj,ad,ai,au,bf⟩:=Yy (aN.out j r);have ap:j.heap[w.heap.size]? = some (PZ #[O3 a.k,O3 a.n,Pj a.s] 65):=a1.out j r;have aZ:=Y ap;clear aF aK ap;go_wp2_with fail;refine wp_region_held (S:=λL=>L.cell? (O7 w.heap.size 0)=some (O3 a.k)/\L.cell? (O7 w.heap.size 1)=some (O3 a.n)/\L.cell? (O7 w.heap.size 2)=some (Pj a.s)) Qs ?_;change wpAnyH _ _ _ _ _ _ _ _ (World.drew _)
 have A:Hid (j.drew.cell? (O7 w.heap.size 0)=some (O3 a.k)/\j.drew.cell? (O7 w.heap.size 1)=some (O3 a.n)/\j.drew.cell? (O7 w.heap.size 2)=some (Pj a.s)):=⟨aj,ad,ai⟩;refine wh 0 (PL H 0) A.out ?_;refine wh 1 (PL H 0) A.out ?_;refine wh 2 (O3 k) A.out ?_;refine wh 4 (Pj l) A.out ?_;refine wg 5 (.agg #[O3 a.k,O3 a.n,Pj a.s]) rfl (fM ⟨by kernel_rfl,λL aJ=>by obtain⟨bc,ba,a8⟩:=aJ;go_simp⟩) A.out ?_
 refine Ye 3 λK s=>?_;go_simp;refine cm (aO.out _ ah.drew) ?_;rintro c a7 ⟨rfl,rfl⟩;refine s.out _ _ A.out (λ_=>?_);clear s K;refine Ye 6 λK s=>?_;go_simp;refine cm (aI.out _ ah.drew) ?_;rintro c ac ⟨rfl,aW,ak⟩;have aS:=(Ql.of ah.drew (P6 aY.out)).trans ak;have ax:Hid (ac.cell? (O7 w.heap.size 0)=some (O3 a.k)/\ac.cell? (O7 w.heap.size 1)=some (O3 a.n)/\ac.cell? (O7 w.heap.size 2)=some (Pj a.s)):=by
  have aJ:=ak.rest _ _ 65 aZ.out Pm;refine⟨?_,?_,?_⟩ <;> simp[World.cell?,aJ]
 refine s.out _ _ ax.out (λ_=>?_);clear s K ak;refine wh 7 QW ax.out ?_;refine wpAnyH_done Qs ?_ _;go_simp;go_wp2;go_ret;exact⟨rfl,aW,aS⟩):=O6 h;exact KX):=O6 h;exact pT
end
section
variable (h:HP H R w f o m p q) (W:f.Small K) (U:K<=1000000000) (e:Nat) (x:Ro) (A:f.Pz[e]? = some x) (l:Py) (a:Va) (L:Nat) (j:Ce) (u:fC l x.cs=some L) (v:x.cs[L]? = some j)
include h W U e x A l a L j u v
def ai4 (X:j.ready=false) :
  Pq 267 #[PL H 0,O3 (e:Int),Pj l,.agg #[O3 a.k,O3 a.n,Pj a.s]] w λc ac=>c=PK (.iface 34 (O3 6))/\Pn w ac:=by
 have T{G}(h:G:=by
 rcases X with ⟨_,s⟩|⟨aF,aI,aZ,aU,aC,aN,ap,ad,aj,ak,s,rfl,ai,ah⟩
 ·rw[N.out] at s;cases s
 obtain rfl:e=aF:=O9;rw[k.out] at ad;cases ad;rw[E.out] at aj;cases aj;rw[t.out] at ak;cases ak;have ay:=Y ah;have B:g.heap[w.heap.size]? = some (PZ #[O3 a.k,O3 a.n,Pj a.s] 65):=(i.block _ P7).trans (hD w _);obtain⟨ba,am⟩:=qK (h.fH d) k.out ai;have bc:aC≠w.heap.size:=RG am B Pm;have ax:Hid (∀ n,Pn g n->Below (w.heap.size+1) (w.alloc (.cells #[O3 a.k,O3 a.n,Pj a.s] 65)) n):=λn r=>(i.mono P7).trans (r.mono (by have:=gz B;omega))
 have aX:=hn S d.size;clear s ah ai B am ap;go_wp2_with fail;refine cm F ?_;rintro c ac ⟨rfl,rfl⟩;go_wp2_with fail;refine cm I ?_;rintro c n ⟨rfl,r⟩;obtain⟨b,aQ,a7⟩:=ay.out n r;have aS:=b 1 _ rfl;have aW:=b 2 _ rfl;have a1:=b 3 _ rfl;have a8:=b 4 _ rfl;have aG:=b 5 _ rfl;have au:=d.trans (r.mono d.size);obtain⟨aV,aJ,aO,aY,be⟩:=Yy (ax.out n r);clear D P b;rw[X] at aG;go_wp2;go_ret;exact⟨rfl,au⟩):=O6 h;exact xJ
def ai5 (X:j.ready=true)(ap:j.kind=2) :
  Pq 267 #[PL H 0,O3 (e:Int),Pj l,.agg #[O3 a.k,O3 a.n,Pj a.s]] w λc ac=>c=PK (.iface 34 (O3 1))/\Pn w ac:=by
 have T{G}(h:G:=by
 rcases X with ⟨_,s⟩|⟨aG,aN,a7,aW,aF,aQ,au,ad,aj,ak,s,rfl,ai,ah⟩
 ·rw[N.out] at s;cases s
 obtain rfl:e=aG:=O9;rw[k.out] at ad;cases ad;rw[E.out] at aj;cases aj;rw[t.out] at ak;cases ak;have aC:=Y ah;have B:g.heap[w.heap.size]? = some (PZ #[O3 a.k,O3 a.n,Pj a.s] 65):=(i.block _ P7).trans (hD w _);obtain⟨bc,am⟩:=qK (h.fH d) k.out ai;have be:aF≠w.heap.size:=RG am B Pm;have ay:Hid (∀ n,Pn g n->Below (w.heap.size+1) (w.alloc (.cells #[O3 a.k,O3 a.n,Pj a.s] 65)) n):=λn r=>(i.mono P7).trans (r.mono (by have:=gz B;omega))
 have aZ:=hn S d.size;clear s ah ai B am au;go_wp2_with fail;refine cm F ?_;rintro c ac ⟨rfl,rfl⟩;go_wp2_with fail;refine cm I ?_;rintro c n ⟨rfl,r⟩;obtain⟨b,aU,ba⟩:=aC.out n r;have aV:=b 1 _ rfl;have aY:=b 2 _ rfl;have a8:=b 3 _ rfl;have aI:=b 4 _ rfl;have aJ:=b 5 _ rfl;have ax:=d.trans (r.mono d.size);obtain⟨aX,aO,aS,a1,bf⟩:=Yy (ay.out n r);clear D P b;rw[X] at aJ;rw[ap] at aI;go_wp2;go_ret;exact⟨rfl,ax⟩):=O6 h;exact xJ
def aoT (X:j.ready=true)(ap:j.kind=3) :
  Pq 267 #[PL H 0,O3 (e:Int),Pj l,.agg #[O3 a.k,O3 a.n,Pj a.s]] w λc ac=>c=PK (.iface 34 (O3 5))/\Pn w ac:=by
 have T{G}(h:G:=by
 rcases X with ⟨_,s⟩|⟨aG,aN,a7,aW,aF,aQ,au,ad,aj,ak,s,rfl,ai,ah⟩
 ·rw[N.out] at s;cases s
 obtain rfl:e=aG:=O9;rw[k.out] at ad;cases ad;rw[E.out] at aj;cases aj;rw[t.out] at ak;cases ak;have aC:=Y ah;have B:g.heap[w.heap.size]? = some (PZ #[O3 a.k,O3 a.n,Pj a.s] 65):=(i.block _ P7).trans (hD w _);obtain⟨bc,am⟩:=qK (h.fH d) k.out ai;have be:aF≠w.heap.size:=RG am B Pm;have ay:Hid (∀ n,Pn g n->Below (w.heap.size+1) (w.alloc (.cells #[O3 a.k,O3 a.n,Pj a.s] 65)) n):=λn r=>(i.mono P7).trans (r.mono (by have:=gz B;omega))
 have aZ:=hn S d.size;clear s ah ai B am au;go_wp2_with fail;refine cm F ?_;rintro c ac ⟨rfl,rfl⟩;go_wp2_with fail;refine cm I ?_;rintro c n ⟨rfl,r⟩;obtain⟨b,aU,ba⟩:=aC.out n r;have aV:=b 1 _ rfl;have aY:=b 2 _ rfl;have a8:=b 3 _ rfl;have aI:=b 4 _ rfl;have aJ:=b 5 _ rfl;have ax:=d.trans (r.mono d.size);obtain⟨aX,aO,aS,a1,bf⟩:=Yy (ay.out n r);clear D P b;rw[X] at aJ;rw[ap] at aI;go_wp2;go_ret;exact⟨rfl,ax⟩):=O6 h;exact xJ
def OC (X:j.ready=true)(aO:j.kind≠2)(aQ:j.kind≠3) :
  Pq 267 #[PL H 0,O3 (e:Int),Pj l,.agg #[O3 a.k,O3 a.n,Pj a.s]] w λc P=>c=PK QW/\HP H R P (f.Tj e ⟨x.outer,x.f6,x.cs.set L ⟨j.name,a,j.kind,j.ready⟩⟩) o m p q/\Ql Th H w P:=by
 have b{G}(h:G:=by
 have M{G}(h:G:=by
 have aL:=Y B;unfold vO at C;clear v A u O b8 aC;have b{G}(h:G:=by
 obtain⟨ap,ay,_,_,_⟩:=(h.fH d).c
 rcases X with ⟨_,D⟩|⟨aJ,aN,ba,aY,aI,aU,au,ac,aj,ak,D,rfl,S,ad⟩
 ·rw[N.out] at D;cases D
 obtain rfl:e=aJ:=O9;rw[k.out] at ac;cases ac;rw[E.out] at aj;cases aj;rw[t.out] at ak;cases ak;have aG:=Y ad;have ax:=Y S;have T:g.heap[w.heap.size]? = some (PZ #[O3 a.k,O3 a.n,Pj a.s] 65):=(i.block _ P7).trans (hD w _);obtain⟨bh,am⟩:=qK (h.fH d) k.out S;have bi:aI≠w.heap.size:=RG am T Pm;have aF:Hid (∀ r,Pn g r->Below (w.heap.size+1) (w.alloc (.cells #[O3 a.k,O3 a.n,Pj a.s] 65)) r):=λr s=>(i.mono P7).trans (s.mono (by have:=gz T;omega))
 have a7:=hn B d.size;clear D ad S T am au;go_wp2_with fail;refine cm F ?_;rintro c P ⟨rfl,rfl⟩;go_wp2_with fail;refine cm I ?_;rintro c r ⟨rfl,s⟩;obtain⟨n,aW,be⟩:=aG.out r s;have aX:=n 1 _ rfl;have a1:=n 2 _ rfl;have bc:=n 3 _ rfl;have bf:=n 4 _ rfl;have aK:=n 5 _ rfl;have ah:=d.trans (s.mono d.size);obtain⟨aZ,aS,aV,a8,bj⟩:=Yy (aF.out r s);have ai:=Y ((h.fH ah).Qt k.out ax.out t.out a);clear ap ay n;rw[X] at aK;go_wp2;go_ret
 exact⟨rfl,ai.out.1,(Ql.of ah (P6 aL.out)).trans ai.out.2⟩):=O6 h;exact KX):=O6 h;exact JF):=O6 h;exact pT
end
def Jt:(prog.info? 262).map (λa=>(a.zero,a.size,a.bytes))=some (some (.agg #[Qn,O3 0,O3 0,Qn,O3 0,Pv false]),6,64):=by kernel_rfl
def vF (w:Pe)(H:Nat)(i:w.heap.size=H)(x:Py)(a:Va)(c:Int)(d:Bool)(b:Nat)(e:Px)(h:([Pj x,O3 a.k,O3 a.n,Pj a.s,O3 c,Pv d]:List Px)[b]? = some e) :
  (w.alloc (.cells #[Pj x,O3 a.k,O3 a.n,Pj a.s,O3 c,Pv d] 262)).cell? (Addr.add (O7 H 0) b)=some e:=by
 subst i
 match b,h with
 | 0,h=>simp at h;subst h;simp[Addr.add]
 | 1,h=>simp at h;subst h;simp[Addr.add]
 | 2,h=>simp at h;subst h;simp[Addr.add]
 | 3,h=>simp at h;subst h;simp[Addr.add]
 | 4,h=>simp at h;subst h;simp[Addr.add]
 | 5,h=>simp at h;subst h;simp[Addr.add]
 | j+6,h=>simp at h
def Aq (x:Py)(a:Va)(d:Int)(e:Bool):∀ c ∈ ([Pj x,O3 a.k,O3 a.n,Pj a.s,O3 d,Pv e]:List Px),c.oneCell'=true:=by
 intro c b;simp at b
 rcases b with rfl|rfl|rfl|rfl|rfl|rfl <;> rfl
def HP.sW (h:HP H R w f o m p q){c:Nat}{x a:Ro}(r:f.Pz[c]? = some x){i b:Px}(n:q[c]? = some i){e t:Nat}(j:m=.slice (some (O7 e 0)) (f.Pz.map Ro.h).length t)
  (s:w.grownBy g i.ownBlock) (v:g.ownsRow H 262 6 b a.cs.length (a.cs.flatMap Ce.h)) (u:∀ d,b.ownBlock=some d->i.ownBlock=some d\/w.heap.size<=d) (l:a.outer=x.outer/\a.f6=x.f6) :
  HP H R (g.setCell (O7 e (c * 3+2)) b) (f.Tj c a) o m p (q.set c b)/\Ql Th H w (g.setCell (O7 e (c * 3+2)) b):=by
 have z:(f.Pz.map Ro.h)[c]? = some x.h:=by simp[r]
 have k:=h.ro;rw[j] at k;have d:=k.put (P6 (gz h.gw)) z n s v u;rw[<-j] at d;refine h.y6 (a:=f.Pz.set c a) ?_ d.2;rw[kn];have:=d.1;rw[show a.h=⟨x.h.hd,a.cs.length,a.cs.flatMap Ce.h⟩ by simp[Ro.h,l]];exact this
def arU (h:HP H R w f o m p q)(c:Int)(k:Py)(j:Int)(a:Va)(d:f.ro c=none) :
  Pq 128 #[PL H 0,O3 c,Pj k,O3 j,.agg #[O3 a.k,O3 a.n,Pj a.s]] w λi w'=>i=PK (.iface 34 (O3 7))/\Pn w w':=by
 obtain⟨n,r,l,t,u⟩:=h.c;have e:c<0\/(f.Pz.length:Int)<=c:=by
  rcases QF f c with ⟨_,h⟩|⟨v,x,rfl,_,h⟩
  ·exact h
  ·rw[d] at h;cases h
 have s:=Yx m _ (QY h.ro.row) c (by simpa using e) (w.alloc (.cells #[O3 a.k,O3 a.n,Pj a.s] 65));clear h e d;go_enter func128,ntmps128;have b{G}(h:G:=by
 go_ret;exact⟨rfl,QJ⟩):=O6 h;exact qR
section
variable (h:HP H R w f o m p q) (ay:f.Small K) (c:K<=1000000000) (n:Nat) (x:Ro) (bN:f.Pz[n]? = some x) (k:Py) (l:Int) (a:Va)
include h ay c n x bN k l a
def arV (e:x.f6≠-1) :
  Pq 128 #[PL H 0,O3 (n:Int),Pj k,O3 l,.agg #[O3 a.k,O3 a.n,Pj a.s]] w λi t=>i=PK (.iface 34 (O3 1))/\Pn w t:=by
 have b{G}(h:G:=by
 have aJ:=Y (C 2 v rfl);have O{G}(h:G:=by
 have O{G}(h:G:=by
 go_ret;exact⟨rfl,z⟩):=O6 h;exact IY):=O6 h;exact yp):=O6 h;exact qB
def aln (E:x.f6 = -1)(j:Nat)(I:Ce)(u:fC k x.cs=some j)(A:x.cs[j]? = some I) :
  Pq 128 #[PL H 0,O3 (n:Int),Pj k,O3 l,.agg #[O3 a.k,O3 a.n,Pj a.s]] w λi t=>i=PK (.iface 34 (O3 9))/\Pn w t:=by
 have b{G}(h:G:=by
 have N:=S;have M:=Y (C 2 v rfl);have O{G}(h:G:=by
 rw[E] at T;obtain⟨X,ad,rfl,_,_,_⟩:=oD S A;rw[u] at r;simp only[mc] at r;clear u A;obtain⟨D,s⟩:=xH (w.alloc (.cells #[O3 a.k,O3 a.n,Pj a.s] 65));have P:d<D.heap.size:=by rw[s.out];exact ac
 rw[show w.alloc (vO a)=D by rw[s.out]] at B r T ah N M U aV z;clear C bN h aW ai aX aY ac;go_enter func128,ntmps128;have b{G}(h:G:=by
 have F:=z.trans (e.mono z.size);go_wp2;go_ret;exact⟨rfl,F⟩):=O6 h;exact y2):=O6 h;exact yp):=O6 h;exact qB
def aoU (bA:x.f6 = -1)(ad:fC k x.cs=none)(be:l=1) :
  Pq 128 #[PL H 0,O3 (n:Int),Pj k,O3 l,.agg #[O3 a.k,O3 a.n,Pj a.s]] w λi t=>i=PK QW/\(∃ b,HP H R t (f.Tj n ⟨x.outer,x.f6,x.cs++[⟨k,a,l,false⟩]⟩) o m p b)/\Ql Th H w t:=by
 have b{G}(h:G:=by
 have b{G}(h:G:=by
 subst be;have b{G}(h:G:=by
 refine wt 7 (O3 1) ?_;refine wt 8 (Pv false) ?_;refine hJ 4 6 (λK c=>?ca) λK c=>?cb
 case' ca=>
  go_simp;refine c _ _ ?_;clear c K;refine wbZ 6 ?_;refine wt 9 (.agg #[Pj k,O3 a.k,O3 a.n,Pj a.s,O3 1,Pv false]) ?_;refine wbZ 10 ?_
 case' cb=>
  go_simp;refine c _ _ ?_;clear c K;refine wt 9 (.agg #[Pj k,O3 a.k,O3 a.n,Pj a.s,O3 1,Pv false]) ?_;refine hJ 4 10 (λK c=>?cc) λK c=>?cd
 case' cc=>
  go_simp;refine c _ _ ?_;clear c K;refine wbZ 10 ?_
 case' cd=>
  go_simp;refine c _ _ ?_;clear c K;refine wbZ 4 ?_
 all_goals
  refine WL 11 λK c=>?_;refine step_append_lies _ rfl _ _ 196 rfl H 262 aS _ 6 64 lF aO aQ aK aN rfl Pm _ _ _ rfl (aD.drew.alloc _) (O7 g.heap.size 0) 1 1 [Pj k,O3 a.k,O3 a.n,Pj a.s,O3 1,Pv false] rfl rfl (vF _ _ rfl _ _ _ _) (Aq _ _ _ _) Pm (by have:=I.out;unfold maxLen;omega) (by have:=I.out;omega) RQ (g.heap.size+1) P7 ?_
  intro bo bn aj bm bh a6 _;refine c _ _ ?_;clear c K;have a1:g.grownBy aj v.ownBlock:=PD (PD (a:=g.drew) ⟨rfl,rfl,rfl,Qp,λ_ _ _=>rfl⟩ (hG _ _ _)) bh;have aZ:=D.sW (a:=⟨x.outer,x.f6,x.cs++[⟨k,a,1,false⟩]⟩) aF.out M.out N.out a1 (b:=.slice (some (O7 bo 0)) (x.cs.length+1) bn) (by rw[jl];simpa[Ce.h] using bm) (λbf ba=>by cases ba;exact a6.imp (λi=>i) (λi=>by rw[i];exact ge _)) ⟨rfl,rfl⟩
  have a7:=Y aZ;have bq:aj.cell? (O7 d (n * 3+2))=some v/\aj.frozen? (O7 d (n * 3+2))=false:=by
   have bf:some d≠v.ownBlock:=λi=>by
    obtain⟨_,_,bj⟩:=D.ro.nc M.out;exact(bj d i.symm).2.2.1 (by rw[N.out];rfl)
   have ba:=a1.block d au bf;exact⟨(gs (w:=g) (a:=(O7 d (n * 3+2))) ba).trans E,(g6 (w:=g) (a:=(O7 d (n * 3+2))) ba).trans F⟩
  obtain⟨bz,bB⟩:=bq;clear aZ a6 E F ax ak ap aC;refine wt 12 (PL d (n * 3)) ?_;refine wt 13 (PL d (n * 3+2)) ?_;refine wbZ 14 ?_;refine ha Qs ?_ _;go_simp;go_wp2;go_ret;exact⟨rfl,⟨_,a7.out.1⟩,(Ql.of am (P6 aG)).trans a7.out.2⟩):=O6 h;exact w1):=O6 h;exact zn):=O6 h;exact qB
def Oo (bA:x.f6 = -1)(ad:fC k x.cs=none)(be:l=2) :
  Pq 128 #[PL H 0,O3 (n:Int),Pj k,O3 l,.agg #[O3 a.k,O3 a.n,Pj a.s]] w λi t=>i=PK QW/\(∃ b,HP H R t (f.Tj n ⟨x.outer,x.f6,x.cs++[⟨k,a,l,false⟩]⟩) o m p b)/\Ql Th H w t:=by
 have b{G}(h:G:=by
 have b{G}(h:G:=by
 subst be;have b{G}(h:G:=by
 refine wt 7 (O3 2) ?_;refine wt 8 (Pv false) ?_;refine hJ 4 6 (λK c=>?ca) λK c=>?cb
 case' ca=>
  go_simp;refine c _ _ ?_;clear c K;refine wbZ 6 ?_;refine wt 9 (.agg #[Pj k,O3 a.k,O3 a.n,Pj a.s,O3 2,Pv false]) ?_;refine wbZ 10 ?_
 case' cb=>
  go_simp;refine c _ _ ?_;clear c K;refine wt 9 (.agg #[Pj k,O3 a.k,O3 a.n,Pj a.s,O3 2,Pv false]) ?_;refine hJ 4 10 (λK c=>?cc) λK c=>?cd
 case' cc=>
  go_simp;refine c _ _ ?_;clear c K;refine wbZ 10 ?_
 case' cd=>
  go_simp;refine c _ _ ?_;clear c K;refine wbZ 4 ?_
 all_goals
  refine WL 11 λK c=>?_;refine step_append_lies _ rfl _ _ 196 rfl H 262 aS _ 6 64 lF aO aQ aK aN rfl Pm _ _ _ rfl (aD.drew.alloc _) (O7 g.heap.size 0) 1 1 [Pj k,O3 a.k,O3 a.n,Pj a.s,O3 2,Pv false] rfl rfl (vF _ _ rfl _ _ _ _) (Aq _ _ _ _) Pm (by have:=I.out;unfold maxLen;omega) (by have:=I.out;omega) RQ (g.heap.size+1) P7 ?_
  intro bo bn aj bm bh a6 _;refine c _ _ ?_;clear c K;have a1:g.grownBy aj v.ownBlock:=PD (PD (a:=g.drew) ⟨rfl,rfl,rfl,Qp,λ_ _ _=>rfl⟩ (hG _ _ _)) bh;have aZ:=D.sW (a:=⟨x.outer,x.f6,x.cs++[⟨k,a,2,false⟩]⟩) aF.out M.out N.out a1 (b:=.slice (some (O7 bo 0)) (x.cs.length+1) bn) (by rw[jl];simpa[Ce.h] using bm) (λbf ba=>by cases ba;exact a6.imp (λi=>i) (λi=>by rw[i];exact ge _)) ⟨rfl,rfl⟩
  have a7:=Y aZ;have bq:aj.cell? (O7 d (n * 3+2))=some v/\aj.frozen? (O7 d (n * 3+2))=false:=by
   have bf:some d≠v.ownBlock:=λi=>by
    obtain⟨_,_,bj⟩:=D.ro.nc M.out;exact(bj d i.symm).2.2.1 (by rw[N.out];rfl)
   have ba:=a1.block d au bf;exact⟨(gs (w:=g) (a:=(O7 d (n * 3+2))) ba).trans E,(g6 (w:=g) (a:=(O7 d (n * 3+2))) ba).trans F⟩
  obtain⟨bz,bB⟩:=bq;clear aZ a6 E F ax ak ap aC;refine wt 12 (PL d (n * 3)) ?_;refine wt 13 (PL d (n * 3+2)) ?_;refine wbZ 14 ?_;refine ha Qs ?_ _;go_simp;go_wp2;go_ret;exact⟨rfl,⟨_,a7.out.1⟩,(Ql.of am (P6 aG)).trans a7.out.2⟩):=O6 h;exact w1):=O6 h;exact zn):=O6 h;exact qB
def alp (bA:x.f6 = -1)(ad:fC k x.cs=none)(bz:l≠1)(bq:l≠2) :
  Pq 128 #[PL H 0,O3 (n:Int),Pj k,O3 l,.agg #[O3 a.k,O3 a.n,Pj a.s]] w λi t=>i=PK QW/\(∃ b,HP H R t (f.Tj n ⟨x.outer,x.f6,x.cs++[⟨k,a,l,true⟩]⟩) o m p b)/\Ql Th H w t:=by
 have b{G}(h:G:=by
 have b{G}(h:G:=by
 have b{G}(h:G:=by
 refine wt 7 (O3 l) ?_;refine wt 8 (Pv true) ?_;refine hJ 4 6 (λK c=>?ca) λK c=>?cb
 case' ca=>
  go_simp;refine c _ _ ?_;clear c K;refine wbZ 6 ?_;refine wt 9 (.agg #[Pj k,O3 a.k,O3 a.n,Pj a.s,O3 l,Pv true]) ?_;refine wbZ 10 ?_
 case' cb=>
  go_simp;refine c _ _ ?_;clear c K;refine wt 9 (.agg #[Pj k,O3 a.k,O3 a.n,Pj a.s,O3 l,Pv true]) ?_;refine hJ 4 10 (λK c=>?cc) λK c=>?cd
 case' cc=>
  go_simp;refine c _ _ ?_;clear c K;refine wbZ 10 ?_
 case' cd=>
  go_simp;refine c _ _ ?_;clear c K;refine wbZ 4 ?_
 all_goals
  refine WL 11 λK c=>?_;refine step_append_lies _ rfl _ _ 196 rfl H 262 aS _ 6 64 lF aO aQ aK aN rfl Pm _ _ _ rfl (aD.drew.alloc _) (O7 g.heap.size 0) 1 1 [Pj k,O3 a.k,O3 a.n,Pj a.s,O3 l,Pv true] rfl rfl (vF _ _ rfl _ _ _ _) (Aq _ _ _ _) Pm (by have:=I.out;unfold maxLen;omega) (by have:=I.out;omega) RQ (g.heap.size+1) P7 ?_
  intro bn bm aj bj bf a6 _;refine c _ _ ?_;clear c K;have a1:g.grownBy aj v.ownBlock:=PD (PD (a:=g.drew) ⟨rfl,rfl,rfl,Qp,λ_ _ _=>rfl⟩ (hG _ _ _)) bf;have aZ:=D.sW (a:=⟨x.outer,x.f6,x.cs++[⟨k,a,l,true⟩]⟩) aF.out M.out N.out a1 (b:=.slice (some (O7 bn 0)) (x.cs.length+1) bm) (by rw[jl];simpa[Ce.h] using bj) (λbe ba=>by cases ba;exact a6.imp (λi=>i) (λi=>by rw[i];exact ge _)) ⟨rfl,rfl⟩
  have a7:=Y aZ;have bo:aj.cell? (O7 d (n * 3+2))=some v/\aj.frozen? (O7 d (n * 3+2))=false:=by
   have be:some d≠v.ownBlock:=λi=>by
    obtain⟨_,_,bh⟩:=D.ro.nc M.out;exact(bh d i.symm).2.2.1 (by rw[N.out];rfl)
   have ba:=a1.block d au be;exact⟨(gs (w:=g) (a:=(O7 d (n * 3+2))) ba).trans E,(g6 (w:=g) (a:=(O7 d (n * 3+2))) ba).trans F⟩
  obtain⟨bB,bC⟩:=bo;clear aZ a6 E F ax ak ap aC;refine wt 12 (PL d (n * 3)) ?_;refine wt 13 (PL d (n * 3+2)) ?_;refine wbZ 14 ?_;refine ha Qs ?_ _;go_simp;go_wp2;go_ret;exact⟨rfl,⟨_,a7.out.1⟩,(Ql.of am (P6 aG)).trans a7.out.2⟩):=O6 h;exact w1):=O6 h;exact zn):=O6 h;exact qB
