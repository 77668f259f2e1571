import Derived.Test.YticfnaiehdpbmaaGreatDoorWa2
import Derived.Laws.OwnMore
import Derived.Deep.AppendLies
import Derived.Shelf.Strings.Builder1
import Derived.Shelf.Strings.Builder2
import Derived.Shelf.Strings.OnBuilder
import Derived.Shelf.Small.Strs
import Derived.Shelf.Strconv.Itoa0
import Derived.Shelf.Strconv.Itoa1
import Derived.Shelf.LaysM
import Derived.Shelf.Strconv.Itoa2
import Derived.Shelf.Strconv.Itoa3
import Derived.Shelf.Strings.Search1
import Derived.Test.YticfnaiehdpbmaaGreatDoorProg
import Derived.LaidEql
import Derived.Stop.Asserts
import Derived.RowKitTokens
set_option maxRecDepth 100000
set_option maxHeartbeats 0
set_option linter.all false
namespace Go.Proofs.YticfnaiehdpbmaaGreatDoor
open Go.RowKit Go.Proofs.Tryz
namespace Hp
def RH {f:Py}{base:Nat}{e:TypeId}{size:Nat}{d:PO}{c:Nat}{g:List PO}(h:f.ownsRow base e size d c g):d=RF/\c=0\/∃b a,d=.slice (some (Pn b 0)) c a:=by
 rcases h.2 with h|⟨b,a,_,h,_⟩
 ·exact .inl h
 ·exact .inr ⟨b,a,h⟩
def gD {c wr:Py}{b:Nat}(h:Below b c wr){a:Addr}(d:a.block<b):wr.cell? a=c.cell? a:=gN (h.block a.block d)
def m0 {c b:Py}(a:PG c b):c.grownBy b none:=⟨a.os,a.tape,a.output,a.size,λe d _=>a.block e d⟩
def Qs {e b:Py}{base:Nat}{c:TypeId}{size:Nat}{a:PO}{d:Nat}{f:List PO}(h:e.ownsRow base c size a d f)(g:PG e b):b.ownsRow base c size a d f:=
 h.kept (m0 g) (by cases a.ownBlock <;> simp)
def QZ {f:Py}{base:Nat}{d:TypeId}{size:Nat}{e:PO}{i:Nat}{j:List PO}(h:f.ownsRow base d size e i j){a:Nat}(b:e.ownBlock=some a):∃c,f.heap[a]?=some (Qb c d):=by
 rcases h.2 with ⟨rfl,_⟩|⟨l,k,c,rfl,_,g,_⟩
 ·simp[Value.ownBlock] at b
 ·simp[Value.ownBlock] at b;subst b;exact⟨c,g⟩
def Sj {f:Py}{d e:Nat}{i k:Array PO}{b c:TypeId}{g l:Nat×Nat}(h:f.heap[d]?=some (.cells i b g))(a:f.heap[e]?=some (.cells k c l))(j:b≠c):d≠e:=by
 rintro rfl;rw[h] at a;simp at a;exact j a.2.1
structure Qv (T:List TypeId)(B:Nat)(w w':Py):Prop where
 below:Below B w w'
 rest:∀(b:Nat) c (e:TypeId),w.heap[b]?=some (Qb c e)->e ∉ T->w'.heap[b]?=some (Qb c e)
def Qv.of {T:List TypeId}{B:Nat}{a b:Py}(c:PG a b)(d:B<=a.heap.size):Qv T B a b:=
 ⟨c.mono d,λe _ _ h _=>(c.block e (gM h)).trans h⟩
def Qv.trans {b:List TypeId}{a:Nat}{c d e:Py}(h:Qv b a c d)(g:Qv b a d e):Qv b a c e:=⟨h.below.trans g.below,λx y f j i=>g.rest x y f (h.rest x y f j i) i⟩
def Qv.mono {e d:List TypeId}{c B':Nat}{f b:Py}(h:Qv e c f b)(m:∀a ∈ e,a ∈ d)(i:B'<=c):Qv d B' f b:=⟨h.below.mono i,λk l a g j=>h.rest k l a g λn=>j (m a n)⟩
section
variable {a:List TypeId}
include a
def Qv.grown {f:Nat}{e i:Py}{k:Option Nat}(c:e.grownBy i k)(n:f<=e.heap.size)(h:∀d,k=some d->f<=d/\∃g b,e.heap[d]?=some (Qb g b)/\b ∈ a):Qv a f e i:=by
 refine⟨⟨c.os,c.tape,c.output,c.size,λd l=>?_⟩,λj _ m g o=>?_⟩
 ·exact c.block d (gH l n) (λb=>by have:=(h d b.symm).1;omega)
 ·refine(c.block j (gM g) (λb=>?_)).trans g;obtain⟨_,r,q,p,m⟩:=h j b.symm;exact Sj p g (by rintro rfl;exact o m) rfl
def Qv.setCell {B:Nat}{i c:Py}(h:Qv a B i c){b f:Nat}{n:Array PO}{d:TypeId}(p:c.heap[b]?=some (Qb n d))(l:d ∈ a)(k:B<=b)(r:PO):Qv a B i (c.setCell (Pn b f) r):=by
 refine⟨h.below.setCell (p:=(Pn b f)) k _,λm o q j g=>?_⟩;have e:=h.rest m o q j g;rw[gY _ _ _ _ (by exact(Sj p e (by rintro rfl;exact g l)).symm)]
 exact e
def Qa {d l:Nat}{j c:Py}{b:TypeId}{size:Nat}{i:PO}{g:Nat}{k:List PO}(h:j.ownsRow d b size i g k)(r:Qv a l j c)(o:b ∉ a):c.ownsRow d b size i g k:=by
 refine⟨h.1,?_⟩
 rcases h.2 with p|⟨f,q,e,n,m,s,rest⟩
 ·exact fU p
 ·exact f4 ⟨f,q,e,n,m,r.rest f e b s o,rest⟩
end
structure El where
 hd:List PO
 n:Nat
 xs:List PO
def flat:List El->List PO->List PO
 |a::b,c::d=>a.hd++c::flat b d
 |_,_=>[]
def jl {i:Nat}:∀(a:List El)(c:List PO)(e b:Nat)(f:El)(j:PO),(∀f ∈ a,f.hd.length+1=i)->a[e]?=some f->c[e]?=some j->b<i->(flat a c)[e * i+b]? =(f.hd++[j])[b]?
 |[],_,e,b,f,j,_,h,_,_=>by simp at h
 |_::_,[],e,b,f,j,_,_,h,_=>by simp at h
 |d::a,g::c,0,b,f,j,l,h,k,m=>by
  simp at h k;subst h k;have:=l d Qh
  show (d.hd++g::flat a c)[0 * i+b]?=_
  rw[jn,h3,show d.hd++g::flat a c=(d.hd++[g])++flat a c by simp,g6 SC]
 |d::a,g::c,e+1,b,f,j,l,h,k,m=>by
  have n:=jl a c e b f j (λx o=>l x (by simp[o])) (by simpa using h) (by simpa using k) m;have:=l d Qh
  show (d.hd++g::flat a c)[(e+1) * i+b]?=_
  rw[show d.hd++g::flat a c=(d.hd++[g])++flat a c by simp,show (e+1) * i+b=(d.hd++[g]).length+(e * i+b) by simp[iV];omega,g5 Pv,lh]
  exact n
def E8:∀(a c:List El)(b d:List PO),b.length=a.length->flat (a++c) (b++d)=flat a b++flat c d
 |[],c,[],d,_=>by simp[flat]
 |[],_,_::_,_,h=>by simp at h
 |_::_,_,[],_,h=>by simp at h
 |e::a,c,f::b,d,h=>by
  have:=E8 a c b d (by simpa using h);simp[flat,this]
def xh {c:Nat}:∀(b:List El)(e:List PO)(a:Nat)(f g:El)(d:PO),(∀f ∈ b,f.hd.length+1=c)->e.length=b.length->b[a]?=some f->g.hd=f.hd->flat (b.set a g) (e.set a d)=(flat b e).set (a * c+(c - 1)) d
 |[],_,a,f,g,d,_,_,h,_=>by simp at h
 |_::_,[],a,f,g,d,_,h,_,_=>by simp at h
 |i::b,j::e,0,f,g,d,k,_,h,l=>by
  simp at h;subst h;have:=k i Qh
  show g.hd++d::flat b e=(i.hd++j::flat b e).set (0 * c+(c - 1)) d
  rw[l,jn,h3,mN _ _ Pv,show c - 1 - i.hd.length=0 by omega];rfl
 |i::b,j::e,a+1,f,g,d,k,o,h,l=>by
  have m:=xh b e a f g d (λx n=>k x (by simp[n])) (by simpa using o) (by simpa using h) l;have:=k i Qh
  show i.hd++j::flat (b.set a g) (e.set a d)=(i.hd++j::flat b e).set ((a+1) * c+(c - 1)) d
  rw[m,show (a+1) * c+(c - 1)=i.hd.length+((a * c+(c - 1))+1) by simp[iV];omega,mN _ _ Pv,lh]
  rfl
structure Tb (B:Nat)(j0:TypeId)(so:Nat)(ik:TypeId)(lq:Nat)(w:Py)(tv:PO)(es:List El)(vs:List PO):Prop where
 row:w.ownsRow B j0 so tv es.length (flat es vs)
 len:vs.length=es.length
 hl:∀e ∈ es,e.hd.length+1=so
 own:∀(i:Nat) e v,es[i]?=some e->vs[i]?=some v->w.ownsRow B ik lq v e.n e.xs
 apart:∀(i j:Nat) a b g,vs[i]?=some a->vs[j]?=some b->a.ownBlock=some g->b.ownBlock=some g->i=j
 ne:j0≠ik
section
variable {l:Nat}{z:TypeId}{p:Nat}{u:TypeId}{C:Nat}{w w':Py}{I:PO}{m:List El}{t:List PO}
def Tb.nil (a:z≠u):Tb l z p u C w RF [] []:=
 ⟨iR _ _ _ _,rfl,λe h=>by simp at h,λb i j h=>by simp at h,λb g c d f h=>by simp at h,a⟩
def Tb.fQ (h:Tb l z p u C w I m t)(a:PG w w'):Tb l z p u C w' I m t:=
 ⟨Qs h.row a,h.len,h.hl,λd e f b c=>Qs (h.own d e f b c) a,h.apart,h.ne⟩
def Tb.f2 {a:List TypeId}{c:Nat}(h:Tb l z p u C w I m t)(b:Qv a c w w')(g:z ∉ a)(d:u ∉ a):Tb l z p u C w' I m t:=
 ⟨Qa h.row b g,h.len,h.hl,λi j k e f=>Qa (h.own i j k e f) b d,h.apart,h.ne⟩
section
variable (h:Tb l z p u C w I m t){i:Nat}
include h i
def Tb.at_ {e:El}(d:m[i]?=some e) :
  ∃a j b,I=.slice (some (Pn a 0)) m.length j/\i<m.length/\t[i]?=some b/\(∀c k,(e.hd++[b])[c]?=some k->w.cell? (Pn a (i * p+c))=some k)/\w.ownsRow l u C b e.n e.xs/\a<w.heap.size/\l<=a/\(∀c,w.frozen? (Pn a c)=false)/\e.hd.length+1=p:=by
 have f:i<m.length:=(gs.1 d).1;obtain⟨b,g⟩:∃b,t[i]?=some b:=⟨_,gq (by rw[h.len];exact f)⟩
 have s:=h.hl e (gC d)
 rcases RH h.row with ⟨_,v⟩|⟨a,j,rfl⟩
 ·omega
 ·refine⟨a,j,b,rfl,f,g,λc k n=>?_,h.own i e b d g,(h.row.lt a rfl).2,(h.row.lt a rfl).1,h.row.frozenAt,s⟩;have o:c<p:=by
   have:=(gs.1 n).1;simp at this;omega
  have q:i * p+c<m.length * p:=by
   have r:(i+1) * p<=m.length * p:=Nat.mul_le_mul_right _ f;rw[iV] at r;omega
  rw[h.row.cellAt _ q,jl m t i c e b h.hl d g o];exact n
def Tb.mF {c:PO}(g:t[i]?=some c):∃q,m[i]?=some q/\(∀a,c.ownBlock=some a->l<=a/\a<w.heap.size/\I.ownBlock≠some a/\∃b,w.heap[a]?=some (Qb b u)):=by
 have k:i<m.length:=by
  have:=(gs.1 g).1;rw[h.len] at this;exact this
 refine⟨m[i],gq k,λa d=>?_⟩;have e:=h.own i m[i] c (gq k) g;obtain⟨b,f⟩:=QZ e d;have j:=e.lt a d;refine⟨j.1,j.2,λn=>?_,b,f⟩;obtain⟨s,r⟩:=QZ h.row n;exact Sj f r (λo=>h.ne o.symm) rfl
end
def mem_set {m:List El}{b:Nat}{a x:El}(h:x ∈ m.set b a):x=a\/x ∈ m:=(iq h).symm
def Tb.bump {n:Py}(h:Tb l z p u C w I m t)(E:l<=w.heap.size){b:Nat}{a:El}{c:PO}(i:m[b]?=some a)(f:t[b]?=some c)(q:w.grownBy n c.ownBlock){A:Nat}{B:List PO}(L:n.ownsRow l u C c A B):Tb l z p u C n I (m.set b ⟨a.hd,A,B⟩) t/\Qv [u] l w n:=by
 obtain⟨N,_,j⟩:=h.mF f;have D:t.set b c=t:=by
  obtain⟨d,rfl⟩:=gs.1 f;exact List.set_getElem_self d
 have M:=h.hl a (gC i);refine⟨⟨?_,by simpa using h.len,?_,?_,h.apart,h.ne⟩,Qv.grown q E λg e=>⟨(j g e).1,(j g e).2.2.2.choose,u,(j g e).2.2.2.choose_spec,by simp⟩⟩
 ·have e:=h.row.kept q (by
   cases o:I.ownBlock with
   |none=>exact .inl rfl
   |some v=>exact .inr λa=>(j v a.symm).2.2.1 o)
  have g:=xh m t b a ⟨a.hd,A,B⟩ c h.hl h.len i rfl;rw[D] at g;have k:=jl m t b (p - 1) a c h.hl i f Pv;rw[g5 Pv,show p - 1 - a.hd.length=0 by omega] at k;rw[List.length_set,g];rw[show (flat m t).set (b * p+(p - 1)) c=flat m t by
   obtain⟨d,o⟩:=gs.1 (k.trans rfl);rw[<-o];exact List.set_getElem_self d]
  exact e
 ·intro x d
  rcases mem_set d with rfl|d
  ·exact M
  ·exact h.hl x d
 ·intro s H o g k
  by_cases r:b=s
  ·subst r;rw[f] at k
   cases k
   have:b<m.length:=(gs.1 i).1;simp[hW this] at g;subst g;exact L
  ·rw[h8 r] at g;refine(h.own s H o g k).kept q ?_
   cases F:o.ownBlock with
   |none=>exact .inl rfl
   |some v=>exact .inr λa=>r (h.apart b s c o v f k a.symm F)
def Tb.put {r:Py}{d T:Nat}(h:Tb l z p u C w (.slice (some (Pn d 0)) m.length T) m t)(ae:l<=w.heap.size){b:Nat}{a:El}{v:PO}(H:m[b]?=some a)(F:t[b]?=some v)(L:w.grownBy r v.ownBlock){e:PO}{N:Nat}{O:List PO}(au:r.ownsRow l u C e N O)(U:∀c,e.ownBlock=some c->v.ownBlock=some c\/w.heap.size<=c) :
  Tb l z p u C (r.setCell (Pn d (b * p+(p - 1))) e) (.slice (some (Pn d 0)) m.length T) (m.set b ⟨a.hd,N,O⟩) (t.set b e)/\Qv [z,u] l w (r.setCell (Pn d (b * p+(p - 1))) e):=by
 obtain⟨aE,_,A⟩:=h.mF F;have al:=h.row.lt d rfl;obtain⟨aJ,aI⟩:=QZ h.row (a:=d) rfl;have R:v.ownBlock≠some d:=λa=>(A d a).2.2.1 rfl;have ad:e.ownBlock≠some d:=λa=>by
  rcases U d a with B|B
  ·exact R B
  ·omega
 have k:=h.row.kept L (.inr (λa=>R a.symm));obtain⟨ak,aH⟩:=k.stored (b * p+(p - 1)) e;obtain⟨aD,ap⟩:=QZ k (a:=d) rfl;have ah:=xh m t b a ⟨a.hd,N,O⟩ e h.hl h.len H rfl;have s:b<m.length:=(gs.1 H).1;have ax:=h.hl a (gC H);refine⟨⟨?_,by simpa using h.len,?_,?_,?_,h.ne⟩,?_⟩
 ·rw[List.length_set,ah];exact ak
 ·intro x j
  rcases mem_set j with rfl|j
  ·exact ax
  ·exact h.hl x j
 ·intro i o g n f
  by_cases q:b=i
  ·subst q;rw[hW (by rw[h.len];exact s)] at f
   cases f;simp[hW s] at n;subst n;exact m1 au ad _
  ·rw[h8 q] at n f;have D:r.ownsRow l u C g o.n o.xs:=by
    refine(h.own i o g n f).kept L ?_
    cases E:g.ownBlock with
    |none=>exact .inl rfl
    |some c=>exact .inr λa=>q (h.apart b i v g c F f a.symm E)
   obtain⟨_,_,P⟩:=h.mF f;exact m1 D (λa=>(P d a).2.2.1 rfl) _
 ·have X:∀(i:Nat) g c,i≠b->t[i]?=some g->e.ownBlock=some c->g.ownBlock=some c->False:=by
   intro i g c n f B S
   rcases U c B with af|ay
   ·exact n (h.apart i b g v c f F S af)
   ·obtain⟨_,_,P⟩:=h.mF f;have:=(P c S).2.1;omega
  intro E g x y c q f j M
  by_cases D:b=E
  ·subst D
   by_cases o:b=g
   ·exact o
   ·rw[hW (by rw[h.len];exact s)] at q
    cases q;rw[h8 o] at f;exact(X g y c (λa=>o a.symm) f j M).elim
  ·rw[h8 D] at q
   by_cases o:b=g
   ·subst o;rw[hW (by rw[h.len];exact s)] at f
    cases f;exact(X E x c (λa=>D a.symm) q M j).elim
   ·rw[h8 o] at f;exact h.apart E g x y c q f j M
 ·exact Qv.setCell (Qv.grown L ae λf k=>⟨(A f k).1,(A f k).2.2.2.choose,u,(A f k).2.2.2.choose_spec,by simp⟩) ap Qh al.1 _
def Tb.push {f:Py}{j:PO}(h:Tb l z p u C w I m t)(A:l<=w.heap.size)(i:List PO)(B:i.length+1=p)(o:w.grownBy f I.ownBlock)(D:f.ownsRow l z p j (m.length+1) (flat m t++(i++[RF]))) :
  Tb l z p u C f j (m++[⟨i,0,[]⟩]) (t++[RF])/\Qv [z] l w f:=by
 refine⟨⟨?_,by simp[h.len],?_,?_,?_,h.ne⟩,Qv.grown o A λE k=>?_⟩
 ·rw[E8 _ _ _ _ h.len,gg];exact D
 ·intro x a
  rcases gB.1 a with a|a
  ·exact h.hl x a
  ·simp at a;subst a;exact B
 ·intro d r n b a
  by_cases c:d<m.length
  ·rw[g6 c] at b;rw[g6 (by rw[h.len];exact c)] at a
   obtain⟨_,_,s⟩:=h.mF a;refine(h.own d r n b a).kept o ?_
   cases g:n.ownBlock with
   |none=>exact .inl rfl
   |some e=>exact .inr λq=>(s e g).2.2.1 q.symm
  ·have q:=(gs.1 b).1;simp at q;have:d=m.length:=Pv;subst this;rw[g5 Pv] at b;rw[g5 (by rw[h.len];omega)] at a
   simp[h.len] at b a;subst b a;exact iR _ _ _ _
 ·intro b d c n e a v s r;have q:∀(b:Nat)(c:PO),(t++[RF])[b]?=some c->c.ownBlock=some e->t[b]?=some c:=by
   intro b c a g
   by_cases H:b<t.length
   ·rw[g6 H] at a;exact a
   ·rw[g5 Pv] at a;have F:b - t.length=0:=by
     have:=(gs.1 a).1;simp at this;omega
    rw[F] at a;simp at a;subst a;simp[Value.ownBlock] at g
  exact h.apart b d c n e (q b c a s) (q d n v r) s r
 ·obtain⟨b,a⟩:=QZ h.row k;exact⟨(h.row.lt E k).1,b,z,a,by simp⟩
structure Va where
 k:Int
 n:Int
 s:PS
structure Pr where
 name:PS
 v:Va
 fixed:Bool
structure Ce where
 name:PS
 v:Va
 kind:Int
 ready:Bool
structure Ob where
 code:Int
 ps:List Pr
structure Ro where
 outer:Int
 gf:Int
 cs:List Ce
structure Mo where
 objs:List Ob
 PL:List Ro
def Pr.h (a:Pr):List PO:=[PI a.name,Ph a.v.k,Ph a.v.n,PI a.v.s,PD a.fixed]
def Ce.h (a:Ce):List PO:=[PI a.name,Ph a.v.k,Ph a.v.n,PI a.v.s,Ph a.kind,PD a.ready]
def Ob.h (a:Ob):El:=⟨[Ph a.code],a.ps.length,a.ps.flatMap Pr.h⟩
def Ro.h (a:Ro):El:=⟨[Ph a.outer,Ph a.gf],a.cs.length,a.cs.flatMap Ce.h⟩
def ZO (a:PS)(x:PS):Bool:=x.toList==a.toList
def fP (a:PS)(c:List Pr):Option Nat:=c.findIdx? λb=>ZO a b.name
def fC (c:PS)(b:List Ce):Option Nat:=b.findIdx? λa=>ZO c a.name
def YG {α:Type}{f:α->List PO}{a:Nat}(g:∀d,(f d).length=a):∀(e:List α)(c b:Nat),b<a->(e.flatMap f)[c * a+b]? =(e[c]?).bind λd=>(f d)[b]?
 |[],c,b,_=>by simp
 |d::e,0,b,i=>by
  rw[hM,jn,h3,g6 (by rw[g];exact i)]
  rfl
 |d::e,c+1,b,i=>by
  have h:=YG g e c b i;rw[hM,show (c+1) * a+b=(f d).length+(c * a+b) by rw[g,iV];omega,g5 Pv,lh,h]
  rfl
def CH {α:Type}{d:α->List PO}{b:Nat}(e:∀c,(d c).length=b)(a:List α):(a.flatMap d).length=a.length * b:=by
 induction a with
 |nil=>simp
 |cons c a f=>rw[hM,gg,f,e,g4,iV];omega
structure HP (H:Nat)(R:List PO)(w:Py)(M:Mo)(aA aB:PO)(os cf:List PO):Prop where
 gG:w.heap[H]?=some (.cells (aA::aB::R).toArray 84 (0,0))
 ob:Tb H 185 2 207 5 w aA (M.objs.map Ob.h) os
 ro:Tb H 198 3 262 6 w aB (M.PL.map Ro.h) cf
def QM (H:Nat)(R:List PO)(w:Py)(a:Mo):Prop:=∃b c e d,HP H R w a b c e d
def HP.fQ {H:Nat}{R:List PO}{w w':Py}{b:Mo}{c d:PO}{f e:List PO}(h:HP H R w b c d f e)(a:PG w w'):HP H R w' b c d f e:=
 ⟨(a.block H (gM h.gG)).trans h.gG,h.ob.fQ a,h.ro.fQ a⟩
def HP.c {H:Nat}{R:List PO}{w:Py}{c:Mo}{a b:PO}{e d:List PO}(h:HP H R w c a b e d):w.cell? (Pn H 0)=some a/\w.cell? (Pn H 1)=some b/\w.frozen? (Pn H 0)=false/\w.frozen? (Pn H 1)=false/\H<w.heap.size:=by
 refine⟨?_,?_,?_,?_,gM h.gG⟩
 ·simp[World.cell?,h.gG]
 ·simp[World.cell?,h.gG]
 all_goals
  simp[World.frozen?,h.gG]
def mo (c:Nat):PO->Option Nat->Option Addr
 |.slice (some a) _ _,some b=>some (Pn a.block (b * c))
 |_,_=>none
def ZC (b:Nat)(a:PO):mo b a none=none:=by cases a <;> simp[mo]
def ZB (c:PO)(b:Nat)(f:c=RF/\b=0\/∃e d,c=.slice (some (Pn e 0)) b d)(a:Int)(i:a<0\/(b:Int)<=a)(w:Py) :
  PN 126 #[c,Ph a] w λg w'=>g=PY Rz/\w'=w:=by
 rcases f with ⟨rfl,rfl⟩|⟨e,d,rfl⟩
 ·go_enter func126,ntmps126
  go_wp2
  all_goals go_ret
  all_goals exact⟨rfl,rfl⟩
 ·go_enter func126,ntmps126;exact sJ
def rq (b d c:Nat)(a:Nat)(f:a<c)(w:Py) :
  PN 126 #[.slice (some (Pn b 0)) c d,Ph (a:Int)] w λe w'=>e=PY (PZ b (a * 2))/\w'=w:=by
 go_enter func126,ntmps126;exact sJ
def P2 (a:Nat)(c:Nat)(d x:PS)(b:Nat)(w:Py)(h:w.cell? (Pn a c)=some (PI x))(f:w.cell? (Pn b 0)=some (PI d)) :
  PN 206 #[PZ a c,PZ b 0] w λe w'=>e=PY (PD (x.toList==d.toList))/\w'=w.drew:=by
 go_enter func206,ntmps206
 go_wp2
 go_region_with fail
 all_goals go_wp2
 all_goals go_ret
 all_goals exact⟨rfl,rfl⟩
def aj9 (M:PO)(c:List Pr)(base:Nat)(s:PS)(v:Nat)(w:Py)(L:w.ownsRow base 207 5 M c.length (c.flatMap Pr.h))(X:c.length<=1000000000)(F:w.cell? (Pn v 0)=some (PI s)) :
  PN 205 #[M,.func (.func 206) #[] #[PZ v 0]] w λd w'=>d=PY (.pointer (mo 5 M (fP s c)))/\PG w w':=by
 rcases RH L with ⟨rfl,R⟩|⟨A,al,rfl⟩
 ·have:c=[]:=lL.1 R;subst this;clear R X;go_enter func205,ntmps205;exact G6
 ·have k:=(L.lt A rfl).2;have af:=Y (jR w _ F);have ah:Hid (∀a g,c[a]?=some g->w.cell? (Pn A (a * 5))=some (PI g.name)):=λa g f=>by
   have U:a<c.length:=(gs.1 f).1;have h:=L.cellAt (a * 5+0) Pv;rw[YG (a:=5) (λ_=>rfl) c a 0 PK,f] at h;simpa[Pr.h] using h
  have ae:=Y F;have ad:=Y k;clear F k;go_enter func205,ntmps205;go_wp2_with fail
  go_loopw [8] (λq wr=>∃a:Nat,a<=c.length/\q=Ph a/\(∀e g,e<a->c[e]?=some g->ZO s g.name=false)/\PG w wr) (λq _=>c.length - (intOf q).toNat)
  case atStart=>exact⟨0,ge _,rfl,λe g i=>absurd i (lE _),RV⟩
  case round=>
   obtain⟨a,U,rfl,S,f⟩:=hrel;have B:=Y S;have o:=f;clear S f
   by_cases k:a<c.length
   ·obtain⟨g,H⟩:∃g,c[a]?=some g:=⟨_,gq k⟩;have T:wr.cell? (Pn A (a * 5))=some (PI g.name):=(gD o (a:=(Pn A (a * 5))) ad.out).trans (ah.out a g H);have P:wr.cell? (Pn v 0)=some (PI s):=(gD o (a:=(Pn v 0)) af.out).trans ae.out;have j:=P2 A (a * 5) s g.name v wr T P;have O:=Y H;clear T P H
    cases n:(g.name.toList==s.toList)
    ·exact IR
    ·rw[n] at j;have D:=Y n;clear n;have b{G}(h:G:=by
     go_wp2;go_ret;have E:fP s c=some a:=by
      rw[fP,jX];exact Ab
     rw[E];exact⟨rfl,o.drew⟩):=Pq h;exact mr
   ·have b:a=c.length:=Pv;subst b;go_wp2;go_ret;have E:fP s c=none:=by
     rw[fP,jL];intro g f;obtain⟨e,i,rfl⟩:=List.mem_iff_getElem.1 f;exact B.out e _ i (gq i)
    rw[E];exact⟨rfl,o⟩
def apA (b:PS)(w:Py) :
  PN 127 #[Rz,PI b] w λa w'=>a=PY Rz/\PG w w':=by
 go_enter func127,ntmps127;go_wp2;go_ret;exact⟨rfl,QK⟩
def x3 (e i:Nat)(c:PO)(a:List Pr)(base:Nat)(b:PS)(w:Py)(h:w.cell? (Pn e (i+1))=some c)(g:w.ownsRow base 207 5 c a.length (a.flatMap Pr.h))(n:a.length<=1000000000) :
  PN 127 #[PZ e i,PI b] w λd w'=>d=PY (.pointer (mo 5 c (fP b a)))/\PG w w':=by
 have f:=jR w _ h;have q:e<w.heap.size:=f;have j:=aj9 c a base b w.heap.size (w.alloc (.cells #[PI b] 9)) (g.alloc _) n Qh;have k:=RH g;clear f;go_enter func127,ntmps127;exact HQ
def YI (c:PO)(b:Nat)(f:c=RF/\b=0\/∃e d,c=.slice (some (Pn e 0)) b d)(a:Int)(i:a<0\/(b:Int)<=a)(w:Py) :
  PN 122 #[c,Ph a] w λg w'=>g=PY Rz/\w'=w:=by
 rcases f with ⟨rfl,rfl⟩|⟨e,d,rfl⟩
 ·go_enter func122,ntmps122
  go_wp2
  all_goals go_ret
  all_goals exact⟨rfl,rfl⟩
 ·go_enter func122,ntmps122;exact sJ
def pK (b d c:Nat)(a:Nat)(f:a<c)(w:Py) :
  PN 122 #[.slice (some (Pn b 0)) c d,Ph (a:Int)] w λe w'=>e=PY (PZ b (a * 3))/\w'=w:=by
 go_enter func122,ntmps122;exact sJ
def atV (a:Nat)(c:Nat)(d x:PS)(b:Nat)(w:Py)(h:w.cell? (Pn a c)=some (PI x))(f:w.cell? (Pn b 0)=some (PI d)) :
  PN 204 #[PZ a c,PZ b 0] w λe w'=>e=PY (PD (x.toList==d.toList))/\w'=w.drew:=by
 go_enter func204,ntmps204
 go_wp2
 go_region_with fail
 all_goals go_wp2
 all_goals go_ret
 all_goals exact⟨rfl,rfl⟩
def RA (M:PO)(c:List Ce)(base:Nat)(s:PS)(v:Nat)(w:Py)(L:w.ownsRow base 262 6 M c.length (c.flatMap Ce.h))(X:c.length<=1000000000)(F:w.cell? (Pn v 0)=some (PI s)) :
  PN 203 #[M,.func (.func 204) #[] #[PZ v 0]] w λd w'=>d=PY (.pointer (mo 6 M (fC s c)))/\PG w w':=by
 rcases RH L with ⟨rfl,R⟩|⟨A,al,rfl⟩
 ·have:c=[]:=lL.1 R;subst this;clear R X;go_enter func203,ntmps203;exact G6
 ·have k:=(L.lt A rfl).2;have af:=Y (jR w _ F);have ah:Hid (∀a g,c[a]?=some g->w.cell? (Pn A (a * 6))=some (PI g.name)):=λa g f=>by
   have U:a<c.length:=(gs.1 f).1;have h:=L.cellAt (a * 6+0) Pv;rw[YG (a:=6) (λ_=>rfl) c a 0 PK,f] at h;simpa[Ce.h] using h
  have ae:=Y F;have ad:=Y k;clear F k;go_enter func203,ntmps203;go_wp2_with fail
  go_loopw [8] (λq wr=>∃a:Nat,a<=c.length/\q=Ph a/\(∀e g,e<a->c[e]?=some g->ZO s g.name=false)/\PG w wr) (λq _=>c.length - (intOf q).toNat)
  case atStart=>exact⟨0,ge _,rfl,λe g i=>absurd i (lE _),RV⟩
  case round=>
   obtain⟨a,U,rfl,S,f⟩:=hrel;have B:=Y S;have o:=f;clear S f
   by_cases k:a<c.length
   ·obtain⟨g,H⟩:∃g,c[a]?=some g:=⟨_,gq k⟩;have T:wr.cell? (Pn A (a * 6))=some (PI g.name):=(gD o (a:=(Pn A (a * 6))) ad.out).trans (ah.out a g H);have P:wr.cell? (Pn v 0)=some (PI s):=(gD o (a:=(Pn v 0)) af.out).trans ae.out;have j:=atV A (a * 6) s g.name v wr T P;have O:=Y H;clear T P H
    cases n:(g.name.toList==s.toList)
    ·exact IR
    ·rw[n] at j;have D:=Y n;clear n;have b{G}(h:G:=by
     go_wp2;go_ret;have E:fC s c=some a:=by
      rw[fC,jX];exact Ab
     rw[E];exact⟨rfl,o.drew⟩):=Pq h;exact mr
   ·have b:a=c.length:=Pv;subst b;go_wp2;go_ret;have E:fC s c=none:=by
     rw[fC,jL];intro g f;obtain⟨e,i,rfl⟩:=List.mem_iff_getElem.1 f;exact B.out e _ i (gq i)
    rw[E];exact⟨rfl,o⟩
def apB (b:PS)(w:Py) :
  PN 123 #[Rz,PI b] w λa w'=>a=PY Rz/\PG w w':=by
 go_enter func123,ntmps123;go_wp2;go_ret;exact⟨rfl,QK⟩
def w7 (e i:Nat)(c:PO)(a:List Ce)(base:Nat)(b:PS)(w:Py)(h:w.cell? (Pn e (i+2))=some c)(g:w.ownsRow base 262 6 c a.length (a.flatMap Ce.h))(n:a.length<=1000000000) :
  PN 123 #[PZ e i,PI b] w λd w'=>d=PY (.pointer (mo 6 c (fC b a)))/\PG w w':=by
 have f:=jR w _ h;have q:e<w.heap.size:=f;have j:=RA c a base b w.heap.size (w.alloc (.cells #[PI b] 9)) (g.alloc _) n Qh;have k:=RH g;clear f;go_enter func123,ntmps123;exact HQ
def Mo.ob (b:Mo)(a:Int):Option Ob:=if a<0 then none else b.objs[a.toNat]?
def Mo.ro (b:Mo)(a:Int):Option Ro:=if a<0 then none else b.PL[a.toNat]?
def Mo.gQ (a:Mo)(c:Int)(b:PS):Option Pr:=(a.ob c).bind λx=>x.ps.find? λd=>ZO b d.name
def Mo.Y2 (a:Mo)(d:Int)(c:PS):Option Ce:=(a.ro d).bind λx=>x.cs.find? λb=>ZO c b.name
def Mo.SX (a:Mo)(b:Int):Int:=((a.ro b).map (·.gf)).getD (-1)
def Mo.hJ (a:Mo)(b:Int):Int:=((a.ro b).map (·.outer)).getD (-1)
def Mo.gA (a:Mo)(b:Int):Int:=((a.ob b).map (·.code)).getD 0
def Mo.has (a:Mo)(c:Int)(b:PS):Bool:=(a.Y2 c b).isSome||(a.gQ (a.SX c) b).isSome
def Mo.kindOf (a:Mo)(c:Int)(b:PS):Int:=((a.Y2 c b).map (·.kind)).getD (-1)
structure Mo.Small (M:Mo)(k:Nat):Prop where
 o:M.objs.length<=k
 r:M.PL.length<=k
 ps:∀x ∈ M.objs,x.ps.length<=k
 cs:∀x ∈ M.PL,x.cs.length<=k
def vZ:Obj:=.cells #[Ph 0,Ph 0,QB] 65
def vp:PO:=.agg #[Ph 0,Ph 0,QB]
def qy:Option Pr->PO
 |none=>vp
 |some a=>.agg #[Ph a.v.k,Ph a.v.n,PI a.v.s]
def hP (H:Nat):PO:=PZ H 0
def ZP {w a:Py}{b c d:PO}{f:TypeId}(g:Below (w.heap.size+1) (w.alloc (.cells #[b,c,d] f)) a) :
  a.cell? (Pn w.heap.size 0)=some b/\a.cell? (Pn w.heap.size 1)=some c/\a.cell? (Pn w.heap.size 2)=some d/\(∀e,a.frozen? (Pn w.heap.size e)=false)/\w.heap.size<a.heap.size:=by
 have h:a.heap[w.heap.size]?=some (Qb #[b,c,d] f):=(g.block _ (kj _)).trans (hH w _);refine⟨by simp[World.cell?,h],by simp[World.cell?,h],by simp[World.cell?,h],λe=>by simp[World.frozen?,h],gM h⟩
def hA {w b:Py}{l a:Nat}(f:Below l w b)(h:l<=a)(c d e:PO):Below l w (((b.setCell (Pn a 0) c).setCell (Pn a 1) d).setCell (Pn a 2) e):=
 ((f.setCell (p:=(Pn a 0)) h c).setCell (p:=(Pn a 1)) h d).setCell (p:=(Pn a 2)) h e
def Wq {α:Type}(c:α->Bool)(a:List α):(a.findIdx? c=none/\a.find? c=none)\/∃b d,a.findIdx? c=some b/\a[b]?=some d/\a.find? c=some d/\c d=true:=by
 cases h:a.findIdx? c with
 |none=>
  left;refine⟨rfl,?_⟩;rw[jL] at h;rw[jQ];intro x e;simp[h x e]
 |some b=>
  right;obtain⟨e,f,g⟩:=jX.1 h;refine⟨b,a[b],rfl,gq e,?_,f⟩;rw[n8];exact⟨f,b,e,rfl,λj i=>by have:=g j i;simpa using this⟩
def SY (b:Mo)(a:Int):(b.ob a=none/\(a<0\/(b.objs.length:Int)<=a))\/∃(d:Nat)(x:Ob),a=d/\b.objs[d]?=some x/\b.ob a=some x:=by
 unfold Mo.ob
 by_cases h:a<0
 ·rw[fY h];exact .inl ⟨rfl,.inl h⟩
 ·rw[fT h]
  cases c:b.objs[a.toNat]? with
  |none=>
   left;refine⟨rfl,.inr ?_⟩;have:=n6.1 c;omega
  |some x=>exact .inr ⟨a.toNat,x,by omega,c,rfl⟩
def E9 (W:Py)(b e:Nat)(d:Pr):Prop:=(∀a c,d.h[a]?=some c->W.cell? (Pn b (e * 5+a))=some c)/\b<W.heap.size/\∀a,W.frozen? (Pn b a)=false
def nD {l:Nat}{w:Py}{k:PO}{a:List Pr}(c:w.ownsRow l 207 5 k a.length (a.flatMap Pr.h)){d:Nat}{i:Pr}(f:a[d]?=some i) :
  ∃b e,k=.slice (some (Pn b 0)) a.length e/\d<a.length/\E9 w b d i/\l<=b:=by
 have n:d<a.length:=(gs.1 f).1
 rcases RH c with ⟨_,q⟩|⟨b,e,rfl⟩
 ·omega
 ·refine⟨b,e,rfl,n,⟨λj r g=>?_,(c.lt b rfl).2,c.frozenAt⟩,(c.lt b rfl).1⟩;have o:j<5:=(gs.1 g).1;rw[c.cellAt _ Pv,YG (a:=5) (λ_=>rfl) a d j o,f];exact g
def vo {H:Nat}{R:List PO}{w:Py}{g:Mo}{q M:PO}{D X:List PO}(h:HP H R w g q M D X){K:Nat}(P:g.Small K)(ay:K<=1000000000)(i:Int)(c:PS) :
  ∃E A,PN 126 #[q,Ph i] w (λv w'=>v=PY (.pointer E)/\w'=w)/\PN 127 #[.pointer E,PI c] w (λv w'=>v=PY (.pointer A)/\PG w w') /\
   ((A=none/\g.gQ i c=none)\/∃(a:Nat)(x:Ob)(f:Nat)(e:Pr)(d s:Nat),i=a/\g.objs[a]?=some x/\fP c x.ps=some f/\x.ps[f]?=some e/\g.gQ i c=some e/\A=some (Pn d (f * 5))/\D[a]?=some (.slice (some (Pn d 0)) x.ps.length s)/\∀W,PG w W->E9 W d f e):=by
 rcases SY g i with ⟨af,ah⟩|⟨a,x,rfl,r,B⟩
 ·refine⟨none,none,ZB q _ (RH h.ob.row) i (by simpa using ah) w,apA c w,.inl ⟨rfl,by simp[Mo.gQ,af]⟩⟩
 ·obtain⟨d,s,k,U,N,T,S,ak,aJ,aE,aD,_⟩:=h.ob.at_ (i:=a) (e:=x.h) (by simp[r]);have aK:=P.ps x (gC r);have ad:w.cell? (Pn d (a * 2+1))=some k:=S 1 k rfl;have o:w.ownsRow H 207 5 k x.ps.length (x.ps.flatMap Pr.h):=ak;refine⟨some (Pn d (a * 2)),mo 5 k (fP c x.ps),?_,x3 d (a * 2) k x.ps H c w ad o Pv,?_⟩
  ·rw[U];exact rq d s _ a N w
  ·rcases Wq (λe=>ZO c e.name) x.ps with ⟨n,j⟩|⟨f,e,n,j,ae,_⟩
   ·left;refine⟨?_,by simp[Mo.gQ,B,j]⟩;rw[show fP c x.ps=none from n];exact ZC _ _
   ·right;obtain⟨al,ap,rfl,aH,aL,ax⟩:=nD o j;refine⟨a,x,f,e,al,ap,rfl,r,n,j,by simp[Mo.gQ,B,ae],?_,T,λW O=>?_⟩
    ·rw[show fP c x.ps=some f from n];rfl
    ·obtain⟨aI,au,L,_,F,_⟩:=nD (Qs o O) j;exact HX
def QC (b:Mo)(a:Int):(b.ro a=none/\(a<0\/(b.PL.length:Int)<=a))\/∃(d:Nat)(x:Ro),a=d/\b.PL[d]?=some x/\b.ro a=some x:=by
 unfold Mo.ro
 by_cases h:a<0
 ·rw[fY h];exact .inl ⟨rfl,.inl h⟩
 ·rw[fT h]
  cases c:b.PL[a.toNat]? with
  |none=>
   left;refine⟨rfl,.inr ?_⟩;have:=n6.1 c;omega
  |some x=>exact .inr ⟨a.toNat,x,by omega,c,rfl⟩
def EE (W:Py)(b e:Nat)(d:Ce):Prop:=(∀a c,d.h[a]?=some c->W.cell? (Pn b (e * 6+a))=some c)/\b<W.heap.size/\∀a,W.frozen? (Pn b a)=false
def od {l:Nat}{w:Py}{k:PO}{a:List Ce}(c:w.ownsRow l 262 6 k a.length (a.flatMap Ce.h)){d:Nat}{i:Ce}(f:a[d]?=some i) :
  ∃b e,k=.slice (some (Pn b 0)) a.length e/\d<a.length/\EE w b d i/\l<=b:=by
 have n:d<a.length:=(gs.1 f).1
 rcases RH c with ⟨_,q⟩|⟨b,e,rfl⟩
 ·omega
 ·refine⟨b,e,rfl,n,⟨λj r g=>?_,(c.lt b rfl).2,c.frozenAt⟩,(c.lt b rfl).1⟩;have o:j<6:=(gs.1 g).1;rw[c.cellAt _ Pv,YG (a:=6) (λ_=>rfl) a d j o,f];exact g
def ZY {H:Nat}{R:List PO}{w:Py}{g:Mo}{M q:PO}{ap B:List PO}(h:HP H R w g M q ap B){K:Nat}(P:g.Small K)(ay:K<=1000000000)(i:Int)(c:PS) :
  ∃E A,PN 122 #[q,Ph i] w (λv w'=>v=PY (.pointer E)/\w'=w)/\PN 123 #[.pointer E,PI c] w (λv w'=>v=PY (.pointer A)/\PG w w') /\
   ((A=none/\g.Y2 i c=none)\/∃(a:Nat)(x:Ro)(f:Nat)(e:Ce)(d s:Nat),i=a/\g.PL[a]?=some x/\fC c x.cs=some f/\x.cs[f]?=some e/\g.Y2 i c=some e/\A=some (Pn d (f * 6))/\B[a]?=some (.slice (some (Pn d 0)) x.cs.length s)/\∀W,PG w W->EE W d f e):=by
 rcases QC g i with ⟨ae,af⟩|⟨a,x,rfl,r,D⟩
 ·refine⟨none,none,YI q _ (RH h.ro.row) i (by simpa using af) w,apB c w,.inl ⟨rfl,by simp[Mo.Y2,ae]⟩⟩
 ·obtain⟨d,s,k,U,N,T,S,ah,aJ,aE,aD,_⟩:=h.ro.at_ (i:=a) (e:=x.h) (by simp[r]);have aK:=P.cs x (gC r);have X:w.cell? (Pn d (a * 3+2))=some k:=S 2 k rfl;have o:w.ownsRow H 262 6 k x.cs.length (x.cs.flatMap Ce.h):=ah;refine⟨some (Pn d (a * 3)),mo 6 k (fC c x.cs),?_,w7 d (a * 3) k x.cs H c w X o Pv,?_⟩
  ·rw[U];exact pK d s _ a N w
  ·rcases Wq (λe=>ZO c e.name) x.cs with ⟨n,j⟩|⟨f,e,n,j,ad,_⟩
   ·left;refine⟨?_,by simp[Mo.Y2,D,j]⟩;rw[show fC c x.cs=none from n];exact ZC _ _
   ·right;obtain⟨ak,al,rfl,aH,aL,ax⟩:=od o j;refine⟨a,x,f,e,ak,al,rfl,r,n,j,by simp[Mo.Y2,D,ad],?_,T,λW O=>?_⟩
    ·rw[show fC c x.cs=some f from n];rfl
    ·obtain⟨aI,au,L,_,F,_⟩:=od (Qs o O) j;exact HX
variable {H K:Nat}{R S P:List PO}{c:Mo}{B o:PO}
section
variable (h:HP H R w c B o S P)(a:Int)
include h a
def y5:PN 125 #[hP H,Ph a] w λd w'=>d=PY (Ph (c.SX a))/\w'=w:=by
 obtain⟨L,M,j,F,O⟩:=h.c;unfold hP
 rcases QC c a with ⟨k,v⟩|⟨e,x,rfl,q,r⟩
 ·have b:=YI o _ (RH h.ro.row) a (by simpa using v) w;rw[show c.SX a = -1 by simp[Mo.SX,k]];clear h;go_enter func125,ntmps125;exact pU
 ·obtain⟨i,s,U,g,n,D,f,T,N,A,j,_⟩:=h.ro.at_ (i:=e) (e:=x.h) (by simp[q]);have b:=pK i s _ e n w;rw[<-g] at b;have E:w.cell? (Pn i (e * 3+1))=some (Ph x.gf):=f 1 _ rfl;rw[show c.SX e=x.gf by simp[Mo.SX,r]];clear h f g;go_enter func125,ntmps125;exact pU
def FD:PN 252 #[hP H,Ph a] w λd w'=>d=PY (Ph (c.hJ a))/\w'=w:=by
 obtain⟨L,M,j,F,O⟩:=h.c;unfold hP
 rcases QC c a with ⟨k,v⟩|⟨e,x,rfl,q,r⟩
 ·have b:=YI o _ (RH h.ro.row) a (by simpa using v) w;rw[show c.hJ a = -1 by simp[Mo.hJ,k]];clear h;go_enter func252,ntmps252;exact pU
 ·obtain⟨i,s,U,g,n,D,f,T,N,A,j,_⟩:=h.ro.at_ (i:=e) (e:=x.h) (by simp[q]);have b:=pK i s _ e n w;rw[<-g] at b;have E:w.cell? (Pn i (e * 3))=some (Ph x.outer):=f 0 _ rfl;rw[show c.hJ e=x.outer by simp[Mo.hJ,r]];clear h f g;go_enter func252,ntmps252;exact pU
def Zj:PN 209 #[hP H,Ph a] w λd w'=>d=PY (Ph (c.gA a))/\w'=w:=by
 obtain⟨L,M,j,F,O⟩:=h.c;unfold hP
 rcases SY c a with ⟨k,v⟩|⟨e,x,rfl,q,r⟩
 ·have b:=ZB B _ (RH h.ob.row) a (by simpa using v) w;rw[show c.gA a=0 by simp[Mo.gA,k]];clear h;go_enter func209,ntmps209;exact pU
 ·obtain⟨i,s,U,g,n,D,f,T,N,A,j,_⟩:=h.ob.at_ (i:=e) (e:=x.h) (by simp[q]);have b:=rq i s _ e n w;rw[<-g] at b;have E:w.cell? (Pn i (e * 2))=some (Ph x.code):=f 0 _ rfl;rw[show c.gA e=x.code by simp[Mo.gA,r]];clear h f g;go_enter func209,ntmps209;exact pU
end
section
variable (h:HP H R w c B o S P)(i:c.Small K)(g:K<=1000000000)
include h i g
def j4 (n:Int)(j:PS) :
  PN 124 #[hP H,Ph n,PI j] w λa w'=>a=PY (.tuple #[qy (c.gQ n j),PD (c.gQ n j).isSome])/\PG w w':=by
 obtain⟨ak,al,U,ah,ap⟩:=h.c;have M:PG w (w.alloc vZ):=QK;obtain⟨aD,aE,q,r,v⟩:=vo (h.fQ M) i g n j;unfold vZ at q r;unfold hP;clear h
 rcases v with ⟨rfl,e⟩|⟨au,x,ax,A,ae,X,rfl,_,_,_,e,rfl,_,s⟩
 ·rw[e];clear e;go_enter func124,ntmps124;have b{G}(h:G:=by
  have b{G}(h:G:=by
  go_wp2_with fail;refine hp (v:=.tuple #[vp,PD false]) (by simp[results,results124,go_sem,vp,L,E,F]) rfl ⟨rfl,?_⟩;exact hA D Qq _ _ _):=Pq h;exact q1):=Pq h;exact oT
 ·rw[e];clear e;have N:=Y s;clear s;go_enter func124,ntmps124;have b{G}(h:G:=by
  obtain⟨f,ad,_⟩:=N.out k d;have T:=f 1 _ rfl;have af:=f 2 _ rfl;have ay:=f 3 _ rfl;have b{G}(h:G:=by
  clear f;go_wp2_with fail;refine hp (v:=.tuple #[qy (some A),PD true]) (by simp[results,results124,go_sem,qy,L,E,F]) rfl ⟨rfl,?_⟩;exact hA D Qq _ _ _):=Pq h;exact q1):=Pq h;exact oT
def te (n:Int)(j:PS) :
  PN 353 #[hP H,Ph n,PI j] w λa w'=>a=PY (Ph (c.kindOf n j))/\PG w w':=by
 obtain⟨T,U,E,O,X⟩:=h.c;obtain⟨ah,ak,q,r,A⟩:=ZY h i g n j;unfold hP Mo.kindOf;clear h
 rcases A with ⟨rfl,e⟩|⟨ad,x,ae,F,N,L,rfl,_,_,_,e,rfl,_,s⟩
 ·rw[e];clear e;go_enter func353,ntmps353;exact HH
 ·rw[e];clear e;have D:=Y s;clear s;go_enter func353,ntmps353;have b{G}(h:G:=by
  obtain⟨v,M,_⟩:=D.out k d;have af:=v 4 _ rfl;have f:=d;clear v;go_wp2;go_ret;exact⟨rfl,f⟩):=Pq h;exact oT
def BK (b:Int)(a:PS)(d:c.gQ b a=none) :
  PN 124 #[PZ H 0,Ph b,PI a] w λe w'=>e=PY (.tuple #[.agg #[Ph 0,Ph 0,QB],PD false])/\PG w w':=by
 have:=j4 h i g b a;rw[d] at this;exact this
def Hl (d:Int)(b:PS){a:Pr}(e:c.gQ d b=some a) :
  PN 124 #[PZ H 0,Ph d,PI b] w λf w'=>f=PY (.tuple #[.agg #[Ph a.v.k,Ph a.v.n,PI a.v.s],PD true])/\PG w w':=by
 have:=j4 h i g d b;rw[e] at this;exact this
def ZE (e:Int)(j:PS) :
  PN 55 #[PZ H 0,Ph e,PI j] w λa w'=>a=PY (PD (c.has e j))/\PG w w':=by
 obtain⟨af,ah,T,ae,ak⟩:=h.c;obtain⟨ax,ay,q,r,L⟩:=ZY h i g e j;unfold Mo.has
 rcases L with ⟨rfl,s⟩|⟨al,x,ap,U,ad,X,rfl,_,_,_,s,rfl,_,F⟩
 ·rw[s];clear s;have b{G}(h:G:=by
  rw[<-n];clear n
  cases v:c.gQ A j with
  |none=>
   have E:Hid (∀k,PG w k->_):=λk d=>BK (h.fQ d) i g A j v;exact Cc
  |some au=>
   have E:Hid (∀k,PG w k->_):=λk d=>Hl (h.fQ d) i g A j v;exact Cc):=Pq h;exact yC
 ·rw[s];clear s F;go_enter func55,ntmps55;exact HH
end
inductive Mo.iw (M:Mo)(nm:PS):Int->Int->Prop where
 |out (i:Int) (h:M.ro i=none):Mo.iw M nm i (-1)
 |here (i:Nat) (x:Ro) (h:M.PL[i]?=some x) (hh:M.has i nm=true):Mo.iw M nm i i
 |on (i:Nat) (x:Ro) (r:Int) (h:M.PL[i]?=some x) (hh:M.has i nm=false) (aG:x.outer<i) (aa:Mo.iw M nm x.outer r):Mo.iw M nm i r
def HL {c:Mo}{a:Nat}{x:Ro}(h:c.PL[a]?=some x):c.ro a=some x:=by simp[Mo.ro,h]
def axK {c:Mo}{a:Nat}{x:Ob}(h:c.objs[a]?=some x):c.ob a=some x:=by simp[Mo.ob,h]
def qP (h:HP H R w c B o S P)(a:Nat)(x:Ro)(f:c.PL[a]?=some x):∃d:Addr,PN 122 #[o,Ph (a:Int)] w λj w'=>j=PY (.pointer (some d))/\w'=w:=by
 obtain⟨k,i,D,g,e,s,r,A,v,q,n,_⟩:=h.ro.at_ (i:=a) (e:=x.h) (by simp[f]);have b:=pK k i _ a e w;rw[<-g] at b;exact⟨_,b⟩
def wa (h:HP H R w c B o S P)(O:c.Small K)(N:K<=1000000000)(A M:Int)(s:PS)(ad:c.iw s A M) :
  PN 195 #[PZ H 0,Ph A,PI s] w λd w'=>d=PY (Ph M)/\PG w w':=by
 have ah:=h;clear h;go_enter func195,ntmps195;go_wp2_with fail
 go_loopw [1] (λL wr=>∃a:Int,L=Ph a/\c.iw s a M/\PG w wr) (λL _=>(intOf L+1).toNat)
 case atStart=>exact⟨A,rfl,ad,RV⟩
 case round=>
  obtain⟨a,rfl,U,g⟩:=hrel;have f:=ah.fQ g;obtain⟨al,ap,_,_,au⟩:=f.c
  cases U with
  |out _ n=>
   have F:a<0\/(c.PL.length:Int)<=a:=by
    rcases QC c a with ⟨_,h⟩|⟨A,x,rfl,_,h⟩
    ·exact h
    ·rw[n] at h;cases h
   have j:=YI o _ (RH f.ro.row) a (by simpa using F) wr;clear F n;have b{G}(h:G:=by
   go_wp2;go_ret;exact⟨rfl,g⟩):=Pq h;exact mr
  |here e x i q=>
   obtain⟨X,D⟩:=qP f e x i;have j:=D;have k:=ZE f O N e s;rw[q] at k;clear q i;have b{G}(h:G:=by
   go_wp2_with fail;refine cm k ?_;rintro d r ⟨rfl,v⟩;have E:=g.trans (v.mono g.size);go_wp2;go_ret;exact⟨rfl,E⟩):=Pq h;exact mr
  |on e x _ i q n af=>
   obtain⟨X,D⟩:=qP f e x i;have j:=D;have k:=ZE f O N e s;rw[q] at k;have F:=Y (λW ae=>FD (f.fQ (w':=W) ae) e);rw[show c.hJ e=x.outer by simp[Mo.hJ,HL i]] at F;unfold hP at F;have T:=Y n;clear q i n;have b{G}(h:G:=by
   go_wp2_with fail;refine cm k ?_;rintro d r ⟨rfl,v⟩;have ae:=F.out r v;have E:=g.trans (v.mono g.size);go_wp2_with fail;refine cm ae ?_;rintro d ak ⟨rfl,rfl⟩;go_wp2
   go_roundw
   case rel=>exact⟨x.outer,rfl,af,E⟩
   case measure=>
    have:=T.out;simp[intOf];omega):=Pq h;exact mr
def Vg (a:Int):PO:=if a=0 then .nilIface else .iface 34 (Ph a)
def Fw {b:Py}{a:Nat}{n j k d e f:PO}(g:Obj)(v:b.cell? (Pn a 0)=some n)(r:b.cell? (Pn a 1)=some j)(s:b.cell? (Pn a 2)=some k)(q:a<b.heap.size) :
  ((((b.setCell (Pn a 0) d).setCell (Pn a 1) e).setCell (Pn a 2) f).alloc g).cell? (Pn a 0)=some d/\((((b.setCell (Pn a 0) d).setCell (Pn a 1) e).setCell (Pn a 2) f).alloc g).cell? (Pn a 1)=some e/\((((b.setCell (Pn a 0) d).setCell (Pn a 1) e).setCell (Pn a 2) f).alloc g).cell? (Pn a 2)=some f:=by
 have i:a<(((b.setCell (Pn a 0) d).setCell (Pn a 1) e).setCell (Pn a 2) f).heap.size:=by simpa using q
 refine⟨?_,?_,?_⟩
 all_goals
  rw[g9 _ _ _ (by exact i)];go_simp
section
variable (h:HP H R w c B o S P)(g:c.Small K)(f:K<=1000000000)
include h g f
def apJ (e:Int)(a:PS)(i:c.gQ e a=none) :
  PN 313 #[PZ H 0,Ph e,PI a] w λj w'=>j=PY (.tuple #[.agg #[Ph 0,Ph 0,QB],.iface 34 (Ph 7)])/\PG w w':=by
 have s:PG w (w.alloc vZ):=QK;have k:=BK (h.fQ s) g f e a i;unfold vZ at k;clear h i;go_enter func313,ntmps313;go_wp2_with fail;refine cm k ?_;rintro j v ⟨rfl,d⟩;have b{G}(h:G:=by
 go_wp2_with fail;obtain⟨r,n,q⟩:=Fw (d:=Ph 0) (e:=Ph 0) (f:=QB) (.cells #[Ph 0,Ph 0,QB] 65) L E F O;refine hp (v:=.tuple #[.agg #[Ph 0,Ph 0,QB],.iface 34 (Ph 7)]) (by simp[results,results313,go_sem,r,n,q]) rfl ⟨rfl,?_⟩;exact(hA D Qq _ _ _).alloc (by simpa using Qe O) _):=Pq h;exact q1
def Pw (i:Int)(e:PS){a:Pr}(j:c.gQ i e=some a) :
  PN 313 #[PZ H 0,Ph i,PI e] w λk w'=>k=PY (.tuple #[.agg #[Ph a.v.k,Ph a.v.n,PI a.v.s],RI])/\PG w w':=by
 have v:PG w (w.alloc vZ):=QK;have n:=Hl (h.fQ v) g f i e j;unfold vZ at n;clear h j;go_enter func313,ntmps313;go_wp2_with fail;refine cm n ?_;rintro k A ⟨rfl,d⟩;have b{G}(h:G:=by
 go_wp2_with fail;obtain⟨s,q,r⟩:=Fw (d:=Ph a.v.k) (e:=Ph a.v.n) (f:=PI a.v.s) (.cells #[Ph a.v.k,Ph a.v.n,PI a.v.s] 65) L E F O;refine hp (v:=.tuple #[.agg #[Ph a.v.k,Ph a.v.n,PI a.v.s],RI]) (by simp[results,results313,go_sem,s,q,r]) rfl ⟨rfl,?_⟩;exact(hA D Qq _ _ _).alloc (by simpa using Qe O) _):=Pq h;exact q1
def C7 (e:Int)(s:PS)(T:c.Y2 e s=none)(D:PO)(af ae:Int)(U:PS)(aD:D=.agg #[Ph af,Ph ae,PI U])(E:PO)(L:∀W,PG w W->PN 313 #[PZ H 0,Ph (c.SX e),PI s] W λa w'=>a=PY (.tuple #[D,E])/\PG W w') :
  PN 290 #[PZ H 0,Ph e,PI s] w λa w'=>a=PY (.tuple #[D,E])/\PG w w':=by
 obtain⟨aO,aQ,aH,aM,aR⟩:=h.c;have au:PG w (w.alloc vZ):=QK;obtain⟨aX,aY,q,r,ak⟩:=ZY (h.fQ au) g f e s;have b{G}(h:G:=by
 rw[<-n] at L;have ap:=Y L;unfold vZ at q r;clear h L n
 rcases ak with ⟨rfl,i⟩|⟨aT,x,aU,aJ,aL,aK,rfl,_,_,_,i,rfl,_,aI⟩
 ·clear i T;subst aD;go_enter func290,ntmps290;have b{G}(h:G:=by
  have j:=((gi _ w).alloc Qq _).trans (d.mono Qh);obtain⟨N,F,M,ad,aW⟩:=ZP (d.mono Qh);have ax:Hid (∀v,PG k v->Below (w.heap.size+1) (w.alloc (.cells #[Ph 0,Ph 0,QB] 65)) v):=λv ah=>(d.mono Qh).trans (ah.mono Pv);clear N F M ad;go_wp2_with fail;refine cm (O.out k j) ?_;rintro a v ⟨rfl,rfl⟩;go_wp2_with fail;refine cm (ap.out _ j) ?_;rintro a al ⟨rfl,X⟩;obtain⟨N,F,M,ad,aE⟩:=ZP (ax.out al X);have ay:=j.trans (X.mono j.size);go_wp2_with fail
  refine hp (v:=.tuple #[.agg #[Ph af,Ph ae,PI U],E]) (by simp[results,results290,go_sem,N,F,M]) rfl ⟨rfl,?_⟩;exact hA ay Qq _ _ _):=Pq h;exact oT
 ·rw[T] at i;cases i):=Pq h;exact yC
def apK (n:Int)(k:PS){a:Ce}(i:c.Y2 n k=some a) :
  PN 290 #[PZ H 0,Ph n,PI k] w λj w'=>j=PY (if a.ready then .tuple #[.agg #[Ph a.v.k,Ph a.v.n,PI a.v.s],RI] else .tuple #[.agg #[Ph 0,Ph 0,QB],.iface 34 (Ph 6)])/\PG w w':=by
 obtain⟨au,ax,X,ap,ay⟩:=h.c;have M:PG w (w.alloc vZ):=QK;obtain⟨aJ,aK,v,E,L⟩:=ZY (h.fQ M) g f n k;unfold vZ at v E;clear h
 rcases L with ⟨rfl,b⟩|⟨aD,x,aE,af,ak,ad,rfl,_,_,_,b,rfl,_,q⟩
 ·rw[i] at b;cases b
 ·rw[i] at b;cases b;clear i;have N:=Y q;clear q
  cases F:a.ready
  all_goals
   go_enter func290,ntmps290;go_wp2_with fail;refine cm v ?_;rintro j w' ⟨rfl,rfl⟩;go_wp2_with fail;refine cm E ?_;rintro j T ⟨rfl,e⟩;obtain⟨d,ae,_⟩:=N.out T e;have U:=d 1 _ rfl;have al:=d 2 _ rfl;have aH:=d 3 _ rfl;have O:=d 5 _ rfl;rw[F] at O;obtain⟨D,s,A,ah,aI⟩:=ZP (e.mono Qh);have r:=((gi _ w).alloc Qq _).trans (e.mono Qh);clear d;go_wp2_with fail
  ·refine hp (v:=.tuple #[.agg #[Ph 0,Ph 0,QB],.iface 34 (Ph 6)]) (by simp[results,results290,go_sem,D,s,A]) rfl ⟨rfl,?_⟩;exact hA r Qq _ _ _
  ·refine hp (v:=.tuple #[.agg #[Ph a.v.k,Ph a.v.n,PI a.v.s],RI]) (by simp[results,results290,go_sem,D,s,A]) rfl ⟨rfl,?_⟩;exact hA r Qq _ _ _
end
end
def Th:List TypeId:=[84,185,207,198,262]
def Mo.Ux (a:Mo)(b:Nat)(x:Ob):Mo:=⟨a.objs.set b x,a.PL⟩
def Mo.TJ (a:Mo)(b:Nat)(x:Ro):Mo:=⟨a.objs,a.PL.set b x⟩
def PX {d a g:Py}{c:Option Nat}(h:d.grownBy a c)(b:a.grownBy g c):d.grownBy g c:=
 ⟨b.os.trans h.os,b.tape.trans h.tape,b.output.trans h.output,gr h.size b.size,λi e f=>(b.block i (gH e h.size) f).trans (h.block i e f)⟩
section
variable {H:Nat}{R:List PO}{w k:Py}{c:Mo}{g j:PO}{o n:List PO}
def HP.CN (h:HP H R w c g j o n){objs:List Ob}{b:List PO}(d:Tb H 185 2 207 5 k g (objs.map Ob.h) b)(a:Qv [185,207] H w k):HP H R k ⟨objs,c.PL⟩ g j b n/\Qv Th H w k:=
 ⟨⟨a.rest H _ 84 h.gG PK,d,h.ro.f2 a PK PK⟩,a.mono PK Qq⟩
def HP.xI (h:HP H R w c g j o n){a:List Ro}{d:List PO}(e:Tb H 198 3 262 6 k j (a.map Ro.h) d)(b:Qv [198,262] H w k):HP H R k ⟨c.objs,a⟩ g j o d/\Qv Th H w k:=
 ⟨⟨b.rest H _ 84 h.gG PK,h.ob.f2 b PK PK,e⟩,b.mono PK Qq⟩
def BJ:∀(e:List Pr)(a:Nat)(d:Pr)(b:Va),e[a]?=some d ->
  (((e.flatMap Pr.h).set (a * 5+1) (Ph b.k)).set (a * 5+2) (Ph b.n)).set (a * 5+3) (PI b.s)=(e.set a ⟨d.name,b,d.fixed⟩).flatMap Pr.h
 |[],a,d,b,h=>by simp at h
 |i::e,0,d,b,h=>by
  simp at h;subst h;simp[Pr.h]
 |i::e,a+1,d,b,h=>by
  have:=BJ e a d b (by simpa using h);have l:∀f,(a+1) * 5+f=a * 5+f+1+1+1+1+1:=λf=>by omega
  simp only[l,kH,hM,Pr.h,hR,hy] at this ⊢;rw[this]
def FO:∀(e:List Ce)(a:Nat)(b:Ce)(d:Va),e[a]?=some b ->
  (((e.flatMap Ce.h).set (a * 6+1) (Ph d.k)).set (a * 6+2) (Ph d.n)).set (a * 6+3) (PI d.s)=(e.set a ⟨b.name,d,b.kind,b.ready⟩).flatMap Ce.h
 |[],a,b,d,h=>by simp at h
 |i::e,0,b,d,h=>by
  simp at h;subst h;simp[Ce.h]
 |i::e,a+1,b,d,h=>by
  have:=FO e a b d (by simpa using h);have l:∀f,(a+1) * 6+f=a * 6+f+1+1+1+1+1+1:=λf=>by omega
  simp only[l,kH,hM,Ce.h,hR,hy] at this ⊢;rw[this]
def Dr:∀(e:List Ce)(a:Nat)(d:Ce)(b:Va)(f:Bool),e[a]?=some d ->
  ((((e.flatMap Ce.h).set (a * 6+1) (Ph b.k)).set (a * 6+2) (Ph b.n)).set (a * 6+3) (PI b.s)).set (a * 6+5) (PD f)=(e.set a ⟨d.name,b,d.kind,f⟩).flatMap Ce.h
 |[],a,d,b,f,h=>by simp at h
 |l::e,0,d,b,f,h=>by
  simp at h;subst h;simp[Ce.h]
 |l::e,a+1,d,b,f,h=>by
  have:=Dr e a d b f (by simpa using h);have m:∀i,(a+1) * 6+i=a * 6+i+1+1+1+1+1+1:=λi=>by omega
  simp only[m,kH,hM,Ce.h,hR,hy] at this ⊢;rw[this]
def HP.Vc (h:HP H R w c g j o n){f:Nat}{x:Ob}(t:c.objs[f]?=some x){d B D:Nat}(m:o[f]?=some (.slice (some (Pn d 0)) D B)){a:Nat}{e:Pr}(i:x.ps[a]?=some e)(b:Va) :
  HP H R (((w.setCell (Pn d (a * 5+1)) (Ph b.k)).setCell (Pn d (a * 5+2)) (Ph b.n)).setCell (Pn d (a * 5+3)) (PI b.s)) (c.Ux f ⟨x.code,x.ps.set a ⟨e.name,b,e.fixed⟩⟩) g j o n /\
  Qv Th H w (((w.setCell (Pn d (a * 5+1)) (Ph b.k)).setCell (Pn d (a * 5+2)) (Ph b.n)).setCell (Pn d (a * 5+3)) (PI b.s)):=by
 have s:(c.objs.map Ob.h)[f]?=some x.h:=by simp[t]
 have q:w.ownsRow H 207 5 _ x.ps.length (x.ps.flatMap Pr.h):=h.ob.own f x.h _ s m;obtain⟨F,E,r,_⟩:=nD q i;simp only[g7,he,iO,jU] at r;obtain⟨rfl,rfl,rfl⟩:=r;obtain⟨v,z⟩:=q.stored (a * 5+1) (Ph b.k);obtain⟨A,u⟩:=v.stored (a * 5+2) (Ph b.n);obtain⟨p,C⟩:=A.stored (a * 5+3) (PI b.s);rw[BJ x.ps a e b i] at p;have l:=h.ob.bump (Qe (gM h.gG)) s m (PX (PX z u) C) p
 refine h.CN (objs:=c.objs.set f ⟨x.code,x.ps.set a ⟨e.name,b,e.fixed⟩⟩) ?_ (l.2.mono PK Qq);rw[kk];have:=l.1;simpa[Ob.h] using this
section
variable (h:HP H R w c g j o n){f:Nat}{x:Ro}(E:c.PL[f]?=some x){d t D:Nat}(m:n[f]?=some (.slice (some (Pn d 0)) D t)){a:Nat}{e:Ce}(l:x.cs[a]?=some e)(b:Va)
include h f x E d t D m a e l b
def HP.aJd :
  HP H R (((w.setCell (Pn d (a * 6+1)) (Ph b.k)).setCell (Pn d (a * 6+2)) (Ph b.n)).setCell (Pn d (a * 6+3)) (PI b.s)) (c.TJ f ⟨x.outer,x.gf,x.cs.set a ⟨e.name,b,e.kind,e.ready⟩⟩) g j o n /\
  Qv Th H w (((w.setCell (Pn d (a * 6+1)) (Ph b.k)).setCell (Pn d (a * 6+2)) (Ph b.n)).setCell (Pn d (a * 6+3)) (PI b.s)):=by
 have A{G}(h:G:=by
 rw[FO x.cs a e b l] at p;have i:=h.ro.bump (Qe (gM h.gG)) q m (PX (PX v u) z) p;refine h.xI (a:=c.PL.set f ⟨x.outer,x.gf,x.cs.set a ⟨e.name,b,e.kind,e.ready⟩⟩) ?_ (i.2.mono PK Qq);rw[kk];have:=i.1;simpa[Ro.h] using this):=Pq h;exact BF
def HP.aCR (i:Bool) :
  HP H R ((((w.setCell (Pn d (a * 6+1)) (Ph b.k)).setCell (Pn d (a * 6+2)) (Ph b.n)).setCell (Pn d (a * 6+3)) (PI b.s)).setCell (Pn d (a * 6+5)) (PD i)) (c.TJ f ⟨x.outer,x.gf,x.cs.set a ⟨e.name,b,e.kind,i⟩⟩) g j o n /\
  Qv Th H w ((((w.setCell (Pn d (a * 6+1)) (Ph b.k)).setCell (Pn d (a * 6+2)) (Ph b.n)).setCell (Pn d (a * 6+3)) (PI b.s)).setCell (Pn d (a * 6+5)) (PD i)):=by
 have A{G}(h:G:=by
 obtain⟨s,F⟩:=p.stored (a * 6+5) (PD i);rw[Dr x.cs a e b i l] at s;have r:=h.ro.bump (Qe (gM h.gG)) q m (PX (PX (PX v u) z) F) s;refine h.xI (a:=c.PL.set f ⟨x.outer,x.gf,x.cs.set a ⟨e.name,b,e.kind,i⟩⟩) ?_ (r.2.mono PK Qq);rw[kk];have:=r.1;simpa[Ro.h] using this):=Pq h;exact BF
end
variable {K:Nat}
abbrev vA (a:Va):PO:=.agg #[Ph a.k,Ph a.n,PI a.s]
abbrev vO (a:Va):Obj:=.cells #[Ph a.k,Ph a.n,PI a.s] 65
def MD (h:HP H R w c g j o n)(v:c.Small K)(r:K<=1000000000)(l:Int)(i:PS)(a:Va)(q:c.Y2 l i=none) :
  PN 198 #[PZ H 0,Ph l,PI i,.agg #[Ph a.k,Ph a.n,PI a.s]] w λd f=>d=PY (.iface 34 (Ph 7))/\PG w f:=by
 have b{G}(h:G:=by
 obtain⟨L,M,m,p,t⟩:=ZY (h.fQ s) v r l i;unfold vO at m p;clear h
 rcases t with ⟨rfl,e⟩|⟨F,x,I,C,E,B,rfl,_,_,_,e,rfl,_,z⟩
 ·clear e q;go_enter func198,ntmps198;exact JS
 ·rw[q] at e;cases e):=Pq h;exact pF
def rx {b a i:Nat}{x:Ro}(h:HP H R w c g j o n)(e:c.PL[a]?=some x)(d:n[a]?=some (.slice (some (Pn b 0)) x.cs.length i)):∃f,w.heap[b]?=some (Qb f 262):=
 QZ (h.ro.own a x.h _ (by simp[e]) d) rfl
def akd (h:HP H R w c g j o n)(T:c.Small K)(P:K<=1000000000)(i:Nat)(x:Ro)(l:c.PL[i]?=some x)(d:PS)(a:Va)(A:Nat)(e:Ce)(f:fC d x.cs=some A)(p:x.cs[A]?=some e) :
  PN 198 #[PZ H 0,Ph (i:Int),PI d,.agg #[Ph a.k,Ph a.n,PI a.s]] w λz t=>z=PY RI/\HP H R t (c.TJ i ⟨x.outer,x.gf,x.cs.set A ⟨e.name,a,e.kind,true⟩⟩) g j o n/\Qv Th H w t:=by
 have b{G}(h:G:=by
 obtain⟨aU,aW,D,I,S⟩:=ZY (h.fQ s) T P i d;unfold vO at D I;have N:c.Y2 i d=some e:=JK
 rcases S with ⟨rfl,r⟩|⟨al,ax,O,ap,af,aD,U,C,F,L,r,rfl,v,B⟩
 ·rw[N] at r;cases r
 ·obtain rfl:i=al:=Pv;rw[l] at C;cases C;rw[f] at F;cases F;rw[p] at L;cases L;obtain⟨aQ,M⟩:=rx (h.fQ s) l v;have aX:af≠w.heap.size:=Sj M (hH w _) PK;have ae:=Y B;have X:=Y v;have ak:=Y l;have ah:=Y p;clear B v r N U f l p M;go_enter func198,ntmps198;go_wp2_with fail;refine cm D ?_;rintro z t ⟨rfl,rfl⟩;go_wp2_with fail;refine cm I ?_;rintro z k ⟨rfl,q⟩;obtain⟨m,aH,aL⟩:=ae.out k q;have au:=m 1 _ rfl;have aK:=m 2 _ rfl;have aM:=m 3 _ rfl
  have aT:=m 5 _ rfl;obtain⟨aI,ay,aE,aJ,aR⟩:=ZP (q.mono Qh);have E:=Y (((h.fQ s).fQ q).aCR ak.out X.out ah.out a true);have ad:=((gi _ w).alloc Qq _).trans (q.mono Qh);clear m;go_wp2;go_ret;exact⟨rfl,E.out.1,(Qv.of ad (Qe u)).trans E.out.2⟩):=Pq h;exact pF
def GN:(prog.info? 207).map (λa=>(a.zero,a.size,a.bytes))=some (some (.agg #[QB,Ph 0,Ph 0,QB,PD false]),5,56):=by kernel_rfl
def ake (w:Py)(H:Nat)(f:w.heap.size=H)(x:PS)(a:Va)(d:Bool)(b:Nat)(e:PO)(h:([PI x,Ph a.k,Ph a.n,PI a.s,PD d]:List PO)[b]?=some e) :
  (w.alloc (.cells #[PI x,Ph a.k,Ph a.n,PI a.s,PD d] 207)).cell? (Addr.add (Pn H 0) b)=some e:=by
 subst f
 match b,h with
 |0,h=>simp at h;subst h;simp[Addr.add]
 |1,h=>simp at h;subst h;simp[Addr.add]
 |2,h=>simp at h;subst h;simp[Addr.add]
 |3,h=>simp at h;subst h;simp[Addr.add]
 |4,h=>simp at h;subst h;simp[Addr.add]
 |i+5,h=>simp at h
def apM (x:PS)(a:Va)(e:Bool):∀d ∈ ([PI x,Ph a.k,Ph a.n,PI a.s,PD e]:List PO),d.oneCell'=true:=by
 intro d b;simp at b
 rcases b with rfl|rfl|rfl|rfl|rfl <;> rfl
def HP.GQ (h:HP H R w c g j o n){b:Nat}{x a:Ob}(r:c.objs[b]?=some x){i d:PO}(q:o[b]?=some i){f t:Nat}(l:g=.slice (some (Pn f 0)) (c.objs.map Ob.h).length t)(s:w.grownBy k i.ownBlock)(u:k.ownsRow H 207 5 d a.ps.length (a.ps.flatMap Pr.h))(v:∀e,d.ownBlock=some e->i.ownBlock=some e\/w.heap.size<=e)(p:a.code=x.code) :
  HP H R (k.setCell (Pn f (b * 2+1)) d) (c.Ux b a) g j (o.set b d) n/\Qv Th H w (k.setCell (Pn f (b * 2+1)) d):=by
 have z:(c.objs.map Ob.h)[b]?=some x.h:=by simp[r]
 have m:=h.ob;rw[l] at m;have e:=m.put (Qe (gM h.gG)) z q s u v;rw[<-l] at e;refine h.CN (objs:=c.objs.set b a) ?_ e.2;rw[kk];have:=e.1;rw[show a.h=⟨x.h.hd,a.ps.length,a.ps.flatMap Pr.h⟩ by simp[Ob.h,p]];exact this
def Lh (h:HP H R w c g j o n)(b:Int)(m:PS)(a:Va)(fx:Bool)(e:c.ob b=none) :
  PN 56 #[PZ H 0,Ph b,PI m,.agg #[Ph a.k,Ph a.n,PI a.s],PD fx] w λf d=>f=PY (.iface 34 (Ph 7))/\PG w d:=by
 obtain⟨r,s,p,q,t⟩:=h.c;have i:b<0\/(c.objs.length:Int)<=b:=by
  rcases SY c b with ⟨_,h⟩|⟨u,x,rfl,_,h⟩
  ·exact h
  ·rw[e] at h;cases h
 have l:=ZB g _ (RH h.ob.row) b (by simpa using i) (w.alloc (.cells #[Ph a.k,Ph a.n,PI a.s] 65));clear h i e;go_enter func56,ntmps56;go_wp2_with fail;refine cm l ?_;rintro f d ⟨rfl,rfl⟩;go_wp2;go_ret;exact⟨rfl,QK⟩
section
variable (h:HP H R w c g j o n)(au:c.Small K)(f:K<=1000000000)(l:Nat)(x:Ob)(bO:c.objs[l]?=some x)(p:PS)(a:Va)(fx:Bool)
include h au f l x bO p a fx
def Be (D:Nat)(t:Pr)(E:fP p x.ps=some D)(q:x.ps[D]?=some t) :
  PN 56 #[PZ H 0,Ph (l:Int),PI p,.agg #[Ph a.k,Ph a.n,PI a.s],PD fx] w λA m=>A=PY RI/\HP H R m (c.Ux l ⟨x.code,x.ps.set D ⟨t.name,a,t.fixed⟩⟩) g j o n/\Qv Th H w m:=by
 have b{G}(h:G:=by
 have b{G}(h:G:=by
 obtain⟨U,aJ,rfl,ak,_,_⟩:=nD z q;rw[E] at r;simp only[mo] at r;unfold vO at B r;obtain⟨aK,O⟩:=QZ z rfl;have aM:U≠w.heap.size:=Sj O (hH w _) PK;have P:=Y C;have T:=Y bO;have I:=Y q;clear N E bO q h O C M;go_enter func56,ntmps56;go_wp2_with fail;refine cm B ?_;rintro A m ⟨rfl,rfl⟩;go_wp2_with fail;refine cm r ?_;rintro A k ⟨rfl,d⟩;obtain⟨aD,af,L,_,⟨i,ap,aH⟩,_⟩:=nD (Qs z d) I.out;have b{G}(h:G:=by
 have ae:=i 1 _ rfl;have aE:=i 2 _ rfl;have aI:=i 3 _ rfl;obtain⟨ax,ah,al,ay,aL⟩:=ZP (d.mono Qh);have F:=Y ((X.fQ d).Vc T.out P.out I.out a);have S:=((gi _ w).alloc Qq _).trans (d.mono Qh);clear i;go_wp2;go_ret;exact⟨rfl,F.out.1,(Qv.of S (Qe u)).trans F.out.2⟩):=Pq h;exact oC):=Pq h;exact Hm):=Pq h;exact pF
def atX (ae:fP p x.ps=none) :
  PN 56 #[PZ H 0,Ph (l:Int),PI p,.agg #[Ph a.k,Ph a.n,PI a.s],PD fx] w λq S=>q=PY RI/\(∃b,HP H R S (c.Ux l ⟨x.code,x.ps++[⟨p,a,fx⟩]⟩) g j b n)/\Qv Th H w S:=by
 have b{G}(h:G:=by
 have b{G}(h:G:=by
 rw[ae,ZC] at r;have aL:=au.ps x (gC bO);unfold vO at B r;have al:=Y C;have a1:=Y bO;have aK:=Y M;have ba:=Y (N 1 v rfl);have ah:=Y aL;obtain⟨bf,aT,aX,aM,aQ⟩:=g2 GN;clear N ae bO h C M aL;go_enter func56,ntmps56;go_wp2_with fail;refine cm B ?_;rintro q S ⟨rfl,rfl⟩;go_wp2_with fail;refine cm r ?_;rintro q k ⟨rfl,d⟩;have b{G}(h:G:=by
 have aH:=X.fQ d;have bh:=Qs z d;have aW:e<k.heap.size:=gH ad d.size;have aE:k.cell? (Pn e (l * 2+1))=some v:=(gD d (a:=(Pn e (l * 2+1))) ad).trans ba.out;have aJ:k.frozen? (Pn e (l * 2+1))=false:=(hf (w:=w.alloc (vO a)) (a:=(Pn e (l * 2+1))) (d.block e ad)).trans (bo _);go_wp2_with fail;refine pA ?_;refine wt 0 (PZ e (l * 2)) ?_;refine wt 1 (PZ e (l * 2)) ?_;refine wt 2 (PZ e (l * 2)) ?_;refine wt 3 (PZ e (l * 2+1)) ?_;refine wt 5 (PI p) ?_
 refine wt 7 (PD fx) ?_;refine hT 4 6 (λK f=>?ca) λK f=>?cb
 case' ca=>
  go_simp;refine f _ _ ?_;clear f K;refine VP 6 ?_;refine wt 8 (.agg #[PI p,Ph a.k,Ph a.n,PI a.s,PD fx]) ?_;refine VP 9 ?_
 case' cb=>
  go_simp;refine f _ _ ?_;clear f K;refine wt 8 (.agg #[PI p,Ph a.k,Ph a.n,PI a.s,PD fx]) ?_;refine hT 4 9 (λK f=>?cc) λK f=>?cd
 case' cc=>
  go_simp;refine f _ _ ?_;clear f K;refine VP 9 ?_
 case' cd=>
  go_simp;refine f _ _ ?_;clear f K;refine VP 4 ?_
 all_goals
  refine WB 10 λK f=>?_;refine step_append_lies _ rfl _ _ 183 rfl H 207 bf _ 5 56 underlying183 aT aX aM aQ rfl PK _ _ _ rfl (bh.drew.alloc _) (Pn k.heap.size 0) 1 1 [PI p,Ph a.k,Ph a.n,PI a.s,PD fx] rfl rfl (ake _ _ rfl _ _ _) (apM _ _ _) PK (by have:=ah.out;unfold maxLen;omega) (by have:=ah.out;omega) SC (k.heap.size+1) Qh ?_
  intro a8 a7 U a6 aY aD _;refine f _ _ ?_;clear f K;have ap:k.grownBy U v.ownBlock:=PX (PX (a:=k.drew) ⟨rfl,rfl,rfl,Qq,λ_ _ _=>rfl⟩ (hS _ _ _)) aY;have ak:=aH.GQ (a:=⟨x.code,x.ps++[⟨p,a,fx⟩]⟩) a1.out al.out aK.out ap (d:=.slice (some (Pn a8 0)) (x.ps.length+1) a7) (by rw[iT];simpa[Pr.h] using a6) (λaR aI=>by cases aI;exact aD.imp (λq=>q) (λq=>by rw[q];exact gw _)) rfl
  have ay:=Y ak;have be:U.cell? (Pn e (l * 2+1))=some v/\U.frozen? (Pn e (l * 2+1))=false:=by
   have aR:some e≠v.ownBlock:=λq=>by
    obtain⟨_,_,aU⟩:=aH.ob.mF al.out;exact(aU e q.symm).2.2.1 (by rw[aK.out];rfl)
   have aI:=ap.block e aW aR;exact⟨(gN (w:=k) (a:=(Pn e (l * 2+1))) aI).trans aE,(hf (w:=k) (a:=(Pn e (l * 2+1))) aI).trans aJ⟩
  obtain⟨br,bv⟩:=be;clear ak aD aE aJ L E F bq;refine wt 11 (PZ e (l * 2)) ?_;refine wt 12 (PZ e (l * 2+1)) ?_;refine VP 13 ?_;refine hj Qz ?_ _;go_simp;go_wp2;go_ret;exact⟨rfl,⟨_,ay.out.1⟩,(Qv.of D (Qe u)).trans ay.out.2⟩):=Pq h;exact q1):=Pq h;exact Hm):=Pq h;exact pF
end
end
end Hp
end Go.Proofs.YticfnaiehdpbmaaGreatDoor
namespace Go.Proofs
open Go.Shelf
def Tryz.lays156_ren:Go.Shelf.Ren:=⟨fun|156=>318|165=>337|166=>282|169=>84|240=>240|241=>351|276=>288|277=>356|n=>n,fun|31=>26|9=>9|3=>3|4=>4|0=>0|20=>20|72=>171|76=>257|70=>169|37=>42|75=>31|127=>240|164=>127|5=>5|80=>175|n=>n,fun|n=>n⟩
def Tryz.lays156:Go.Proofs.Lays.n156 Tryz.prog Tryz.lays156_ren:={
 mixed:=by kernel_rfl
 f156:=Tryz.func318.trans (congrArg some (by kernel_rfl))
 f165:=Tryz.func337.trans (congrArg some (by kernel_rfl))
 f166:=Tryz.func282.trans (congrArg some (by kernel_rfl))
 f169:=Tryz.func84.trans (congrArg some (by kernel_rfl))
 f240:=Tryz.func240.trans (congrArg some (by kernel_rfl))
 f241:=Tryz.func351.trans (congrArg some (by kernel_rfl))
 f276:=Tryz.func288.trans (congrArg some (by kernel_rfl))
 f277:=Tryz.func356.trans (congrArg some (by kernel_rfl))
 t0:=Tryz.underlying0
 a0:=Tryz.isAgg0
 z0:=Tryz.sizeOf0
 v0:=Tryz.zeroValue0
 t3:=Tryz.underlying3
 a3:=Tryz.isAgg3
 z3:=Tryz.sizeOf3
 v3:=Tryz.zeroValue3
 t4:=Tryz.underlying4
 a4:=Tryz.isAgg4
 z4:=Tryz.sizeOf4
 v4:=Tryz.zeroValue4
 t9:=Tryz.underlying9
 a9:=Tryz.isAgg9
 z9:=Tryz.sizeOf9
 v9:=Tryz.zeroValue9
 t20:=Tryz.underlying20
 a20:=Tryz.isAgg20
 z20:=Tryz.sizeOf20
 v20:=Tryz.zeroValue20
 t31:=Tryz.underlying26
 a31:=Tryz.isAgg26
 z31:=Tryz.sizeOf26
 v31:=Tryz.zeroValue26
 t37:=Tryz.underlying42
 a37:=Tryz.isAgg42
 z37:=Tryz.sizeOf42
 v37:=Tryz.zeroValue42
 t70:=Tryz.underlying169
 a70:=Tryz.isAgg169
 z70:=Tryz.sizeOf169
 v70:=Tryz.zeroValue169
 t72:=Tryz.underlying171
 a72:=Tryz.isAgg171
 z72:=Tryz.sizeOf171
 v72:=Tryz.zeroValue171
 t75:=Tryz.underlying31
 a75:=Tryz.isAgg31
 z75:=Tryz.sizeOf31
 v75:=Tryz.zeroValue31
 t76:=Tryz.underlying257
 a76:=Tryz.isAgg257
 z76:=Tryz.sizeOf257
 v76:=Tryz.zeroValue257
 t127:=Tryz.underlying240
 a127:=Tryz.isAgg240
 z127:=Tryz.sizeOf240
 v127:=Tryz.zeroValue240
 t164:=Tryz.underlying127
 a164:=Tryz.isAgg127
 z164:=Tryz.sizeOf127
 v164:=Tryz.zeroValue127 }
def Tryz.Builder_Extra_156:Builder.Extra Tryz.prog Tryz.lays156_ren:={
 sizeBuilder:=by kernel_rfl
 liesBuilder:=by kernel_rfl
 t5:=Tryz.underlying5
 a5:=Tryz.isAgg5
 z5:=Tryz.sizeOf5
 v5:=Tryz.zeroValue5
 infoByte:=by kernel_rfl
 cellsByte:=by kernel_rfl
 sizeByte:=by kernel_rfl
 neB5:=by decide }
open Go.RowKit in
def Tryz.strings_Join_none (a:Option Addr)(c:Nat)(sep:ByteArray)(w:World) :
  Calls Tryz.prog 318 #[.slice a 0 c,.string sep] w λe w'=>e=.returned (.string ⟨#[]⟩)/\w'=w:=Any.strings_Join_none Tryz.lays156 Tryz.Builder_Extra_156 a c sep w
open Go.RowKit in
def Tryz.strings_Join (bk o c:Nat)(xs:List ByteArray)(sep:ByteArray)(w:World)(hcells:∀(j:Nat) x,xs[j]?=some x->w.cell? ⟨bk,o+j,none⟩=some (.string x))(hbk:bk<w.heap.size)(hN:xs.length<=140737488355328)(hcap:xs.length<=c)(hlen:(Lib.join (xs.map (·.data.toList)) sep.data.toList).length<=140737488355328) :
  Calls Tryz.prog 318 #[.slice (some ⟨bk,o,none⟩) xs.length c,.string sep] w λe w'=>e=.returned (.string ⟨(Lib.join (xs.map (·.data.toList)) sep.data.toList).toArray⟩)/\Below w.heap.size w w':=Any.strings_Join Tryz.lays156 Tryz.Builder_Extra_156 bk o c xs sep w hcells hbk hN hcap hlen
def Tryz.laysM171_ren:Go.Shelf.Ren:=⟨fun|171=>133|243=>208|246=>271|283=>302|284=>303|285=>304|286=>305|129=>326|317=>325|318=>327|319=>328|320=>329|337=>343|338=>344|n=>n,fun|3=>3|9=>9|2=>2|4=>4|171=>319|0=>0|53=>320|37=>42|5=>5|173=>323|212=>341|51=>342|20=>20|213=>343|46=>87|232=>364|233=>365|n=>n,fun|17=>8|18=>11|19=>12|n=>n⟩
def Tryz.laysM171:Go.Proofs.LaysM.n171 Tryz.prog Tryz.laysM171_ren:={
 mixed:=by kernel_rfl
 f129:=Tryz.func326.trans (congrArg some (by kernel_rfl))
 f171:=Tryz.func133.trans (congrArg some (by kernel_rfl))
 f243:=Tryz.func208.trans (congrArg some (by kernel_rfl))
 f246:=Tryz.func271.trans (congrArg some (by kernel_rfl))
 f283:=Tryz.func302.trans (congrArg some (by kernel_rfl))
 f284:=Tryz.func303.trans (congrArg some (by kernel_rfl))
 f285:=Tryz.func304.trans (congrArg some (by kernel_rfl))
 f286:=Tryz.func305.trans (congrArg some (by kernel_rfl))
 f317:=Tryz.func325.trans (congrArg some (by kernel_rfl))
 f318:=Tryz.func327.trans (congrArg some (by kernel_rfl))
 f319:=Tryz.func328.trans (congrArg some (by kernel_rfl))
 f320:=Tryz.func329.trans (congrArg some (by kernel_rfl))
 f337:=Tryz.func343.trans (congrArg some (by kernel_rfl))
 f338:=Tryz.func344.trans (congrArg some (by kernel_rfl))
 t0:=Tryz.underlying0
 a0:=Tryz.isAgg0
 z0:=Tryz.sizeOf0
 v0:=Tryz.zeroValue0
 t2:=Tryz.underlying2
 a2:=Tryz.isAgg2
 z2:=Tryz.sizeOf2
 v2:=Tryz.zeroValue2
 t3:=Tryz.underlying3
 a3:=Tryz.isAgg3
 z3:=Tryz.sizeOf3
 v3:=Tryz.zeroValue3
 t4:=Tryz.underlying4
 a4:=Tryz.isAgg4
 z4:=Tryz.sizeOf4
 v4:=Tryz.zeroValue4
 t5:=Tryz.underlying5
 a5:=Tryz.isAgg5
 z5:=Tryz.sizeOf5
 v5:=Tryz.zeroValue5
 t9:=Tryz.underlying9
 a9:=Tryz.isAgg9
 z9:=Tryz.sizeOf9
 v9:=Tryz.zeroValue9
 t20:=Tryz.underlying20
 a20:=Tryz.isAgg20
 z20:=Tryz.sizeOf20
 v20:=Tryz.zeroValue20
 t37:=Tryz.underlying42
 a37:=Tryz.isAgg42
 z37:=Tryz.sizeOf42
 v37:=Tryz.zeroValue42
 t46:=Tryz.underlying87
 a46:=Tryz.isAgg87
 z46:=Tryz.sizeOf87
 v46:=Tryz.zeroValue87
 t51:=Tryz.underlying342
 a51:=Tryz.isAgg342
 z51:=Tryz.sizeOf342
 v51:=Tryz.zeroValue342
 t53:=Tryz.underlying320
 a53:=Tryz.isAgg320
 z53:=Tryz.sizeOf320
 v53:=Tryz.zeroValue320
 t171:=Tryz.underlying319
 a171:=Tryz.isAgg319
 z171:=Tryz.sizeOf319
 v171:=Tryz.zeroValue319
 t173:=Tryz.underlying323
 a173:=Tryz.isAgg323
 z173:=Tryz.sizeOf323
 v173:=Tryz.zeroValue323
 t212:=Tryz.underlying341
 a212:=Tryz.isAgg341
 z212:=Tryz.sizeOf341
 v212:=Tryz.zeroValue341
 t213:=Tryz.underlying343
 a213:=Tryz.isAgg343
 z213:=Tryz.sizeOf343
 t232:=Tryz.underlying364
 a232:=Tryz.isAgg364
 z232:=Tryz.sizeOf364
 v232:=Tryz.zeroValue364
 t233:=Tryz.underlying365
 a233:=Tryz.isAgg365
 z233:=Tryz.sizeOf365
 v233:=Tryz.zeroValue365
 g17:=by kernel_rfl
 g18:=by kernel_rfl
 g19:=by kernel_rfl
 i0:=by kernel_rfl
 i2:=by kernel_rfl
 i3:=by kernel_rfl
 i4:=by kernel_rfl
 i5:=by kernel_rfl
 i9:=by kernel_rfl
 i20:=by kernel_rfl
 i37:=by kernel_rfl
 i46:=by kernel_rfl
 i51:=by kernel_rfl
 i53:=by kernel_rfl
 i171:=by kernel_rfl
 i173:=by kernel_rfl
 i212:=by kernel_rfl
 i232:=by kernel_rfl
 i233:=by kernel_rfl
 m17:=by kernel_rfl
 m18:=by kernel_rfl
 m19:=by kernel_rfl }
open Go.RowKit Go.Sort Go.Lib in
def Tryz.strconv_Itoa (n : Int)(h0 : -9223372036854775808 <= n)(h1 : n <= 9223372036854775807)(w : World)(htab : Lib.TabIs Tryz.prog w "internal/strconv.uint64pow10" .u64 Lib.pow10Tab) :
  Calls Tryz.prog 133 #[.int .i64 n] w λe w'=>e=.returned (.string ⟨(Lib.itoa n).toArray⟩)/\∃k os,w'=grow (w.drewN k) os:=Any.strconv_Itoa Tryz.laysM171 n h0 h1 w htab
end Go.Proofs
namespace Go.Proofs.YticfnaiehdpbmaaGreatDoor
open Go.RowKit Go.Proofs.Tryz
namespace Hp
section
open Go.RowKit Go.Extern.Stop Go.Stop Go.Extern
def at_one (b:PO)(a:PO->Sem PO)(c:Array PO->Sem PO):@ReflectliteValue.method.match_2 (λ_=>Sem PO) #[b] a c=a b:=rfl
def CA (b x:PO)(a:PO->PO->Sem PO)(c:Array PO->Sem PO):@ReflectliteValue.set.match_3 (λ_=>Sem PO) #[b,x] a c=a b x:=rfl
def R9.amB (b:Addr)(a:Py):(ReflectliteValue.unpack (.iface 86 (.pointer (some b)))).run prog a
  = .ok (.agg #[PZ 13 86,PZ a.heap.size 0,.int .u64 150]) (a.alloc (.cells #[.pointer (some b)] 86)):=by kernel_rfl
def R9.amA (b:Int)(a:Py):(ReflectliteValue.unpack (.iface 34 (Ph b))).run prog a
  = .ok (.agg #[PZ 13 34,PZ a.heap.size 0,.int .u64 130]) (a.alloc (.cells #[Ph b] 34)):=by kernel_rfl
def R9.aw2 (b : Addr)(a : Py) : (ReflectliteValue.methodAny (ReflectliteValue.valueError "reflectlite.Value.Type" 0) (λc _ _ _ => ReflectliteType.toType c) #[.agg #[PZ 13 86, .pointer (some b), .int .u64 150]]).run prog a
  = .ok (.iface 215 (.agg #[PZ 13 86])) a:=by kernel_rfl
def R9.LZ (a:Py):((ReflectliteType.abiMethod λc=>(λb:Nat=>Value.int IntKind.u8 (b:Int)) <$> Rtype.kind c) #[PZ 13 86]).run prog a=.ok (.int .u8 22) a:=by kernel_rfl
def R9.LE (a:Py):((ReflectliteType.abiMethod λc=>(λb:Nat=>Value.int IntKind.u8 (b:Int)) <$> Rtype.kind c) #[PZ 13 34]).run prog a=.ok (.int .u8 2) a:=by kernel_rfl
def R9.Gx (a:Addr)(b:Py):(ReflectliteValue.parts (.agg #[PZ 13 86,.pointer (some a),.int .u64 150])).run prog b=.ok (some (86,a,150)) b:=by kernel_rfl
def R9.as1 (a c:Addr)(W:Py)(b:W.cell? a=some (.pointer (some c))) :
  (ReflectliteValue.method (ReflectliteValue.valueError "reflectlite.Value.IsNil" 0) ReflectliteValue.isNil #[.agg #[PZ 13 86, .pointer (some a), .int .u64 150]]).run prog W = .ok (PD false) W := by
 delta ReflectliteValue.method
 rw[at_one];simp only[gW,R9.Gx,Result.andThen];simp[ReflectliteValue.isNil,loadVar,isAgg,underlying,underlying86,b,Result.andThen]
def R9.N3 (a:Py):(ReflectliteType.method ReflectliteType.elem #[.agg #[PZ 13 86]]).run prog a=.ok (.iface 215 (.agg #[PZ 13 34])) a:=by kernel_rfl
def R9.PB (a : Py) : (ReflectliteType.relation "Implements" ReflectliteType.implements_ #[.agg #[PZ 13 34], .iface 215 (.agg #[PZ 13 31])]).run prog a = .ok (PD true) a := by kernel_rfl
def R9.E7 (b:PO)(a:Py):(ReflectliteType.typeOf #[.iface 34 b]).run prog a=.ok (.iface 215 (.agg #[PZ 13 34])) a:=by kernel_rfl
def R9.N8 (a:Py):(Rtype.elem? 86).run prog a=.ok (some 34) a:=by kernel_rfl
def R9.aIN (a:Addr)(b:Py):(ReflectliteValue.mk 34 a ReflectliteValue.flagAddr).run prog b=.ok (.agg #[PZ 13 34,.pointer (some a),.int .u64 386]) b:=by kernel_rfl
def R9.Z1 (a b:Addr)(W:Py)(c:W.cell? a=some (.pointer (some b))) :
  (ReflectliteValue.method (ReflectliteValue.valueError "reflectlite.Value.Elem" 0) ReflectliteValue.elem #[.agg #[PZ 13 86, .pointer (some a), .int .u64 150]]).run prog W
   = .ok (.agg #[PZ 13 34,.pointer (some b),.int .u64 386]) W:=by
 delta ReflectliteValue.method
 rw[at_one];simp only[gW,R9.Gx,Result.andThen];simp[ReflectliteValue.elem,loadVar,isAgg,underlying,underlying86,c,Result.andThen,R9.N8,R9.aIN]
def R9.V2 (a:Addr)(b:Py):(ReflectliteValue.parts (.agg #[PZ 13 34,.pointer (some a),.int .u64 386])).run prog b=.ok (some (34,a,386)) b:=by kernel_rfl
def R9.as6 (a:Addr)(b:Py):(ReflectliteValue.parts (.agg #[PZ 13 34,.pointer (some a),.int .u64 130])).run prog b=.ok (some (34,a,130)) b:=by kernel_rfl
def R9.ZU (a:Py):(Rtype.directlyAssignable 34 34).run prog a=.ok true a:=by kernel_rfl
def R9.aA5 (a b:Addr)(c:Int)(g:PO)(W:Py)(d:W.cell? b=some (Ph c))(f:W.cell? a=some g)(e:W.frozen? a=false) :
  (ReflectliteValue.set #[.agg #[PZ 13 34,.pointer (some a),.int .u64 386],.agg #[PZ 13 34,.pointer (some b),.int .u64 130]]).run prog W
   = .ok (.tuple #[]) (W.setCell a (Ph c)):=by
 delta ReflectliteValue.set
 rw[CA];simp only[gW,R9.V2,R9.as6,Result.andThen];simp[ReflectliteValue.flagAddr,loadVar,isAgg,underlying,underlying34,d,Result.andThen,R9.ZU,storeVar,Value.cells,storeCells,Addr.add];rw[run_store prog W a _ _ (by rfl)];simp[f,e]
def R9.L5 (b:Addr)(a:Py):(ReflectliteValue.unpack (.iface 123 (.pointer (some b)))).run prog a
  = .ok (.agg #[PZ 13 123,PZ a.heap.size 0,.int .u64 150]) (a.alloc (.cells #[.pointer (some b)] 123)):=by kernel_rfl
def R9.Nf (b:Addr)(a:Py):(ReflectliteValue.unpack (.iface 122 (.pointer (some b)))).run prog a
  = .ok (.agg #[PZ 13 122,PZ a.heap.size 0,.int .u64 150]) (a.alloc (.cells #[.pointer (some b)] 122)):=by kernel_rfl
def R9.ON (b : Addr)(a : Py) : (ReflectliteValue.methodAny (ReflectliteValue.valueError "reflectlite.Value.Type" 0) (λc _ _ _ => ReflectliteType.toType c) #[.agg #[PZ 13 123, .pointer (some b), .int .u64 150]]).run prog a
  = .ok (.iface 215 (.agg #[PZ 13 123])) a:=by kernel_rfl
def R9.MO (a:Py):((ReflectliteType.abiMethod λc=>(λb:Nat=>Value.int IntKind.u8 (b:Int)) <$> Rtype.kind c) #[PZ 13 123]).run prog a=.ok (.int .u8 22) a:=by kernel_rfl
def R9.P1 (a:Py):((ReflectliteType.abiMethod λc=>(λb:Nat=>Value.int IntKind.u8 (b:Int)) <$> Rtype.kind c) #[PZ 13 122]).run prog a=.ok (.int .u8 22) a:=by kernel_rfl
def R9.Gs (a:Addr)(b:Py):(ReflectliteValue.parts (.agg #[PZ 13 123,.pointer (some a),.int .u64 150])).run prog b=.ok (some (123,a,150)) b:=by kernel_rfl
def R9.OS (a c:Addr)(W:Py)(b:W.cell? a=some (.pointer (some c))) :
  (ReflectliteValue.method (ReflectliteValue.valueError "reflectlite.Value.IsNil" 0) ReflectliteValue.isNil #[.agg #[PZ 13 123, .pointer (some a), .int .u64 150]]).run prog W = .ok (PD false) W := by
 delta ReflectliteValue.method
 rw[at_one];simp only[gW,R9.Gs,Result.andThen];simp[ReflectliteValue.isNil,loadVar,isAgg,underlying,underlying123,b,Result.andThen]
def R9.O4 (a:Py):(ReflectliteType.method ReflectliteType.elem #[.agg #[PZ 13 123]]).run prog a=.ok (.iface 215 (.agg #[PZ 13 122])) a:=by kernel_rfl
def R9.Vn (a : Py) : (ReflectliteType.relation "Implements" ReflectliteType.implements_ #[.agg #[PZ 13 122], .iface 215 (.agg #[PZ 13 31])]).run prog a = .ok (PD true) a := by kernel_rfl
def R9.Ra (b:PO)(a:Py):(ReflectliteType.typeOf #[.iface 122 b]).run prog a=.ok (.iface 215 (.agg #[PZ 13 122])) a:=by kernel_rfl
def R9.Wf (a:Py):(Rtype.elem? 123).run prog a=.ok (some 122) a:=by kernel_rfl
def R9.aBd (a:Addr)(b:Py):(ReflectliteValue.mk 122 a ReflectliteValue.flagAddr).run prog b=.ok (.agg #[PZ 13 122,.pointer (some a),.int .u64 406]) b:=by kernel_rfl
def R9.XS (a b:Addr)(W:Py)(c:W.cell? a=some (.pointer (some b))) :
  (ReflectliteValue.method (ReflectliteValue.valueError "reflectlite.Value.Elem" 0) ReflectliteValue.elem #[.agg #[PZ 13 123, .pointer (some a), .int .u64 150]]).run prog W
   = .ok (.agg #[PZ 13 122,.pointer (some b),.int .u64 406]) W:=by
 delta ReflectliteValue.method
 rw[at_one];simp only[gW,R9.Gs,Result.andThen];simp[ReflectliteValue.elem,loadVar,isAgg,underlying,underlying123,c,Result.andThen,R9.Wf,R9.aBd]
def R9.Ll (a:Addr)(b:Py):(ReflectliteValue.parts (.agg #[PZ 13 122,.pointer (some a),.int .u64 406])).run prog b=.ok (some (122,a,406)) b:=by kernel_rfl
def R9.aoR (a:Addr)(b:Py):(ReflectliteValue.parts (.agg #[PZ 13 122,.pointer (some a),.int .u64 150])).run prog b=.ok (some (122,a,150)) b:=by kernel_rfl
def R9.V0 (a:Py):(Rtype.directlyAssignable 122 122).run prog a=.ok true a:=by kernel_rfl
def R9.Tp (a b:Addr)(c:Addr)(g:PO)(W:Py)(d:W.cell? b=some (.pointer (some c)))(f:W.cell? a=some g)(e:W.frozen? a=false) :
  (ReflectliteValue.set #[.agg #[PZ 13 122,.pointer (some a),.int .u64 406],.agg #[PZ 13 122,.pointer (some b),.int .u64 150]]).run prog W
   = .ok (.tuple #[]) (W.setCell a (.pointer (some c))):=by
 delta ReflectliteValue.set
 rw[CA];simp only[gW,R9.Ll,R9.aoR,Result.andThen];simp[ReflectliteValue.flagAddr,loadVar,isAgg,underlying,underlying122,d,Result.andThen,R9.V0,storeVar,Value.cells,storeCells,Addr.add];rw[run_store prog W a _ _ (by rfl)];simp[f,e]
def R9.amC (b:PO)(a:Py):(ReflectliteType.typeOf #[.iface 359 b]).run prog a=.ok (.iface 215 (.agg #[PZ 13 359])) a:=by kernel_rfl
def R9.acj (a : Py) : (ReflectliteType.relation "AssignableTo" ReflectliteType.assignableTo #[.agg #[PZ 13 34], .iface 215 (.agg #[PZ 13 34])]).run prog a = .ok (PD true) a := by kernel_rfl
def R9.PM (a : Py) : (ReflectliteType.relation "AssignableTo" ReflectliteType.assignableTo #[.agg #[PZ 13 122], .iface 215 (.agg #[PZ 13 122])]).run prog a = .ok (PD true) a := by kernel_rfl
def R9.abn (a : Py) : (ReflectliteType.relation "AssignableTo" ReflectliteType.assignableTo #[.agg #[PZ 13 34], .iface 215 (.agg #[PZ 13 122])]).run prog a = .ok (PD false) a := by kernel_rfl
def R9.aaC (a : Py) : (ReflectliteType.relation "AssignableTo" ReflectliteType.assignableTo #[.agg #[PZ 13 359], .iface 215 (.agg #[PZ 13 122])]).run prog a = .ok (PD false) a := by kernel_rfl
section
variable (h:PO)(a:Py)
include h a
def R9.Tl : (Go.method 493 215 (.agg #[h]) "Kind").run prog a = .ok (371, h) a := by kernel_rfl
def R9.aBf : (Go.method 493 215 (.agg #[h]) "Elem").run prog a = .ok (385, .agg #[h]) a := by kernel_rfl
def R9.Wc : (Go.method 493 215 (.agg #[h]) "Implements").run prog a = .ok (386, .agg #[h]) a := by kernel_rfl
def R9.atb : (Go.method 493 215 (.agg #[h]) "AssignableTo").run prog a = .ok (383, .agg #[h]) a := by kernel_rfl
