import Derived.Test.YticfnaiehdpbmaaGreatDoorFa4
import Derived.ChangeAlike
import Derived.Deep.DrawnRows
import Derived.Deep.AppendLies
set_option maxRecDepth 100000
set_option maxHeartbeats 8000000
set_option linter.all false
namespace Go.Proofs.YticfnaiehdpbmaaGreatDoor
open Go.RowKit Go.Proofs.Tryz
def XF (a:Tk):List Px:=[O3 a.kd,Pj a.tx,O3 a.n,O3 (a.pl:Int)]
def Sj (a:List Tk):List Px:=a.flatMap XF
def ZX (a:List Tk)(b:Tk):Sj (a++[b])=Sj a++XF b:=by simp[Sj]
def t7 (g:TR)(b:Pe)(d:Ending)(a:Pe):Prop:=
 match g with
 | .ok c=>∃ e,d=PK (.tuple #[e,.nilIface])/\a.ownsRow b.heap.size 144 4 e c.length (Sj c)/\Pn b a
 | .f0 e f=>∃ c,d=PK (.tuple #[.slice none 0 0,.iface 150 (PL c 0)])/\a.heap[c]? = some (PZ #[O3 e,O3 (f:Int)] 152)/\b.heap.size<=c/\Pn b a
def OQ:(prog.info? 144).map (λa=>(a.zero,a.size,a.bytes))=some (some ZV,4,40):=by kernel_rfl
def amw {wr b:Pe}{a:Nat}{g:Px}{f:Nat}{i:List Px}(j:Pn wr b)(h:wr.ownsRow a 144 4 g f i):b.ownsRow a 144 4 g f i:=by
 obtain⟨e,o|⟨c,n,m,l,p,d,k⟩⟩:=h
 ·exact⟨e,fM o⟩
 ·exact⟨e,fU ⟨c,n,m,l,p,by rw[j.block c (h8.1 d).1];exact d,k⟩⟩
def apZ {f:Pe}{b a:Nat}{e:Px}{d:Nat}{g:List Px}(o:a<=b)(h:f.ownsRow b 144 4 e d g):f.ownsRow a 144 4 e d g:=by
 obtain⟨c,n|⟨m,l,k,j,p,i⟩⟩:=h
 ·exact⟨c,fM n⟩
 ·exact⟨c,fU ⟨m,l,k,j,by omega,i⟩⟩
def IZ {a:Nat}{d b f:Pe}{e:Px}{l:Nat}{m:List Px}(g:Below a d b)(i:a<=b.heap.size)(k:b.ownsRow a 144 4 e l m)(j:b.grownBy f e.ownBlock) :
  Below a d f:=g.grown j i (λq c=>by
  obtain⟨_,⟨rfl,_⟩|⟨p,o,n,rfl,r,_⟩⟩:=k
  ·simp[Value.ownBlock] at c
  ·simp[Value.ownBlock] at c;omega)
def OP (a:Py)(b:Pe)(e:3000<a.size) :
  Pq 33 #[Pj a] b λd c=>d=PK (.tuple #[Q8,.iface 34 (O3 4)])/\c=b:=by
 go_enter func33,ntmps33
 go_wp2
 go_ret2
 exact⟨rfl,rfl⟩
def amf (f e:List Py)(a:Py)(ac:Pe)(ap:a.size<=3000)(aU:hx f e ac)(aK:∀ b ∈ e,1<=b.size) :
  Pq 33 #[Pj a] ac (t7 (Vq f e a (P9 TU a 0) []) ac):=by
 obtain⟨aJ,ax,aD,ay,aC⟩:=gY OQ;obtain⟨p,F⟩:∃ p,Vq f e a (P9 TU a 0) []=p:=⟨_,rfl⟩;have aO:=Y F;rw[F];have aQ:=Y aK;clear F aK;go_enter func33,ntmps33;go_wp2_with fail;refine(Cg _ _).mono ?_;rintro a7 a1 ⟨x,rfl,aS,P⟩;have aF:=aS.congr axq;go_wp2_with fail;refine(tS a 0 x TU a1 (by unfold maxLen;omega) (f3 _) aF).mono ?_
 rintro a6 i ⟨rfl,rfl⟩;have aL:=UL TU a 0 (f3 _);obtain⟨B,I⟩:∃ B,P9 TU a 0=B:=⟨_,rfl⟩;rw[I] at aL ⊢;have aV:Hid (Vq f e a B []=p):=by show _=_;rw[<-I];exact O4 aO
 clear I;go_wp2_with fail
 go_loopw [5,6,7,8,9] (λd W _ _ _ wr=>∃ (b:Nat) (c:List Tk),b<=a.size/\c.length<=b/\W=O3 b/\Vq f e a b c=p/\wr.ownsRow i.heap.size 144 4 d c.length (Sj c)/\Pn i wr/\i.heap.size<=wr.heap.size) (λ_ W _ _ _ _=>a.size - (intOf W).toNat)
 case atStart=>exact⟨B,[],aL,by simp,rfl,aV.out,iK _ _ _ _,RP,Qp⟩
 case round=>
  obtain⟨b,c,d,bc,rfl,au,S,A,u⟩:=hrel;have N:=Y au;clear au;have ak:=(aU.fH P).fH A
  by_cases l:b<a.size
  ·
   cases k:Xf f e a b with
   | tok n q o m=>
    have r:=Ji f e a b n o q m l aQ.out k;have aY:=Y ((Us f e a b c n o q m l k r.1).symm.trans N.out);have O:=Y k;obtain⟨a8,am⟩:=r;clear k;go_wp2_with fail;have w:=Ci f e a b wr ap l ak;rw[O.out] at w;refine cm w ?_;rintro aW C ⟨rfl,t⟩;have aj:=A.trans (t.mono u);have M:=aj;have ah:=amw t S;have T:i.heap.size<=C.heap.size:=aj.size
    go_wp2_with (at_builtin;refine j7 _ rfl _ _ 88 rfl i.heap.size 144 aJ ZV 4 40 underlying88 ax aD ay aC rfl Pm _ _ _ rfl ((ah.alloc _).alloc _) (O7 (C.heap.size+1) 0) 1 1 [O3 n,Pj q,O3 o,O3 (b:Int)] rfl rfl ?c1 ?c2 ?c3 ?c4 ?c5 ?_)
    case c1=>
     exact Ck
    case c2=>
     intro aN s;simp only[gP,jz,jt] at s
     rcases s with rfl|rfl|rfl|rfl <;> rfl
    case c3=>unfold maxLen;omega
    case c4=>omega
    case c5=>simp;omega
    intro z D hown' R _;have E:=IZ ((M.alloc T _).alloc RQ _) RQ ((ah.alloc _).alloc _) R;have v:=E;have ad:D.ownsRow i.heap.size 144 4 z (c++[Tk.mk n q o b]).length (Sj (c++[Tk.mk n q o b])):=by
     refine mD ?_;rw[ZX,gj];exact hown'
    have aZ:=V9 TU a m;have aI:=UL TU a m am;obtain⟨U,X⟩:∃ U,P9 TU a m=U:=⟨_,rfl⟩;rw[X] at aZ aI;have ai:=Y X;clear X;go_wp2_with fail;have aG:=tS a m x TU D (by unfold maxLen;omega) am (aF.fH v)
    rw[ai.out] at aG;refine aG.mono ?_;rintro be ba ⟨rfl,rfl⟩;go_wp2
    go_roundw
    case rel=>exact⟨U,c++[Tk.mk n q o b],aI,by simp;omega,rfl,by have:=O4 aY;rw[ai.out] at this;exact this,ad,v,v.size⟩
    case measure=>simp[intOf];omega
   | f0 n q=>
    have H:p=.f0 n q:=by rw[<-N.out,yd f e a b c n q l k]
    have O:=Y k;clear k;subst H;go_wp2_with fail;have w:=Ci f e a b wr ap l ak;rw[O.out] at w;refine cm w ?_;rintro aW C ⟨m,rfl,r,U,t⟩;have o:=Y r;have M:=A.trans (t.mono u);have T:=f9 u t.size;have X:=f9 u U;clear r;go_wp2
    go_ret2
    have g:=P;refine⟨m,rfl,?_,f9 g.size X,(g.trans (M.mono g.size)).alloc (f9 g.size T) _⟩;rw[gd C _ m (h8.1 o.out).1];exact O4 o
  ·have H:p=.ok (c++[Tk.mk 6 ⟨#[]⟩ 0 a.size]):=by rw[<-N.out,Zp f e a b c l]
   subst H
   go_wp2_with (at_builtin;refine j7 _ rfl _ _ 88 rfl i.heap.size 144 aJ ZV 4 40 underlying88 ax aD ay aC rfl Pm _ _ _ rfl (S.alloc _) (O7 wr.heap.size 0) 1 1 [O3 6,Qn,O3 0,O3 (a.size:Int)] rfl rfl ?c1 ?c2 ?c3 ?c4 ?c5 ?_)
   case c1=>
    exact Ck
   case c2=>
    intro aN s;simp only[gP,jz,jt] at s
    rcases s with rfl|rfl|rfl|rfl <;> rfl
   case c3=>unfold maxLen;omega
   case c4=>omega
   case c5=>simp;omega
   intro z D hown' R _;have E:=IZ (A.alloc u _) RQ (S.alloc _) R;have v:=E;have ad:D.ownsRow i.heap.size 144 4 z (c++[Tk.mk 6 ⟨#[]⟩ 0 a.size]).length (Sj (c++[Tk.mk 6 ⟨#[]⟩ 0 a.size])):=by
    refine mD ?_;rw[ZX,gj];exact hown'
   go_wp2
   go_ret2
   have g:=P;exact⟨z,rfl,apZ g.size ad,g.trans (v.mono g.size)⟩
structure Ap (R B:Nat)(w w':Pe):Prop where
 os:w'.os=w.os
 tape:w'.tape=w.tape
 output:w'.output=w.output
 size:w.heap.size<=w'.heap.size
 block:∀ k,k<B->k≠R->w'.heap[k]? = w.heap[k]?
def Ap.refl (R b:Nat)(a:Pe):Ap R b a a:=⟨rfl,rfl,rfl,Qp,λ_ _ _=>rfl⟩
def Ap.of {R B:Nat}{b a:Pe}(h:Below B b a):Ap R B b a:=⟨h.os,h.tape,h.output,h.size,λd c _=>h.block d c⟩
def Ap.trans {R b:Nat}{d f g:Pe}(h:Ap R b d f)(a:Ap R b f g):Ap R b d g:=
 ⟨a.os.trans h.os,a.tape.trans h.tape,a.output.trans h.output,f9 h.size a.size,λi e c=>(a.block i e c).trans (h.block i e c)⟩
def Ap.mono {R b B':Nat}{c a:Pe}(h:Ap R b c a)(e:B'<=b):Ap R B' c a:=⟨h.os,h.tape,h.output,h.size,λf d=>h.block f (hn d e)⟩
def Ap.next {R:Nat}{a b c:Pe}(h:Ap R a.heap.size a b)(d:Ap R b.heap.size b c):Ap R a.heap.size a c:=h.trans (d.mono h.size)
section
variable {R B:Nat} {b a:Pe} (h:Ap R B b a)
include R B b a h
def Ap.drew:Ap R B b a.drew:=⟨h.os,h.tape,h.output,h.size,h.block⟩
def Ap.alloc (d:B<=a.heap.size)(c:Obj):Ap R B b (a.alloc c):=
 h.trans (Ap.of ((f2 B a).alloc d c))
def Ap.setCell {p:Addr}(g:B<=p.block\/p.block=R)(d:Px):Ap R B b (a.setCell p d):=
 ⟨h.os,h.tape,h.output,by simpa using h.size,λc e f=>by rw[g1 a p d c O9];exact h.block c e f⟩
end
def Ap.grown {R a:Nat}{d b c:Pe}{f:Option Nat}(h:Ap R a d b)(j:b.grownBy c f)(i:a<=b.heap.size)(g:∀ e,f=some e->a<=e):Ap R a d c:=
 h.trans (Ap.of ((f2 a b).grown j i g))
section
variable {R a:Nat} {b c:Pe} (h:Ap R a b c)
include R a b c h
def Ap.cell {p:Addr}(e:p.block<a)(d:p.block≠R):c.cell? p=b.cell? p:=gs (w:=b) (h.block p.block e d)
def Ap.below (f:a<=R):Below a b c:=⟨h.os,h.tape,h.output,h.size,λe d=>h.block e d O9⟩
end
def fI {b:Pe}{a:Nat}{c:Obj}(h:b.heap[a]? = some c):a<b.heap.size:=(h8.1 h).1
abbrev Qc (a:Int)(c:Py)(b:Int)(d:Px):Obj:=PZ #[O3 a,Pj c,O3 b,d] 40
abbrev O5 (a:Nat):Px:=PL a 0
def q2 (d:Nat->Prop)(e:Pe)(c:Px)(b:List Nat):Prop:=e.ownsRow 0 22 1 c b.length (b.map O5)/\∀ a,c.ownBlock=some a->d a
mutual
def Qa (a:Nat->Prop)(c:Pe):Tr->Nat->Prop
 | .mk g k j i,b=>a b/\∃ f e,c.heap[b]? = some (Qc g k j f)/\q2 a c f e/\PE (λd=>a d/\d≠b) c i e
def PE (c:Nat->Prop)(g:Pe):List Tr->List Nat->Prop
 | [],b=>b=[]
 | i::j,b=>∃ f e d,b=f::e/\Qa (λa=>c a/\a<d) g i f/\PE (λa=>c a/\d<=a) g j e
end
def Vh (d:Nat->Prop)(b c:Pe):Prop:=∀ a,d a->a<b.heap.size->c.heap[a]? = b.heap[a]?
def Rt {a:Nat->Prop}{e c:Pe}{f i l:Nat}{d:Px}{k:Nat}{m:List Px}(o:Vh a e c)(s:∀ b,d.ownBlock=some b->a b)(h:e.ownsRow f i l d k m):c.ownsRow f i l d k m:=by
 refine⟨h.1,?_⟩
 rcases h.2 with p|⟨b,r,q,g,n,j,rest⟩
 ·exact fM p
 ·exact fU ⟨b,r,q,g,n,by rw[o b (s b (by rw[g];rfl)) (fI j)];exact j,rest⟩
mutual
def Qa.fH {I:Nat->Prop}{w w':Pe}(d:Vh I w w'):∀ (g:Tr) (b:Nat),Qa I w g b->Qa I w' g b
 | .mk n p o l,b,h=>by
  rw[Qa] at h ⊢;obtain⟨e,m,f,a,c,i⟩:=h;exact⟨e,m,f,by rw[d b e (fI a)];exact a,⟨Rt d c.2 c.1,c.2⟩,PE.fH (λj a k=>d j a.1 k) l f i⟩
def PE.fH {I:Nat->Prop}{w w':Pe}(f:Vh I w w'):∀ (b:List Tr) (a:List Nat),PE I w b a->PE I w' b a
 | [],a,h=>by rw[PE] at h ⊢;exact h
 | m::b,a,h=>by
  rw[PE] at h ⊢;obtain⟨i,g,k,rfl,l,j⟩:=h;exact⟨i,g,k,rfl,Qa.fH (λd c e=>f d c.1 e) m i l,PE.fH (λd c e=>f d c.1 e) b g j⟩
end
def QD {e:Pe}{c j m:Nat}{d:Px}{l:Nat}{n:List Px}(h:e.ownsRow c j m d l n)(b:Nat)(a:d.ownBlock=some b):b<e.heap.size/\c<=b:=by
 rcases h.2 with i|⟨q,p,o,g,f,k,rest⟩
 ·rw[i.1] at a;cases a
 ·rw[g] at a;cases a;exact⟨fI k,f⟩
mutual
def Qa.mono {i J:Nat->Prop}{g:Pe}(f:∀ b,i b->b<g.heap.size->J b):∀ (l:Tr) (c:Nat),Qa i g l c->Qa J g l c
 | .mk q s r o,c,h=>by
  rw[Qa] at h ⊢;obtain⟨n,p,k,a,d,m⟩:=h;exact⟨f c n (fI a),p,k,a,⟨d.1,λe j=>f e (d.2 e j) (QD d.1 e j).1⟩,PE.mono (λb a e=>⟨f b a.1 e,a.2⟩) o k m⟩
def PE.mono {g J:Nat->Prop}{f:Pe}(j:∀ a,g a->a<f.heap.size->J a):∀ (d:List Tr) (c:List Nat),PE g f d c->PE J f d c
 | [],c,h=>by rw[PE] at h ⊢;exact h
 | o::d,c,h=>by
  rw[PE] at h ⊢;obtain⟨k,i,m,rfl,n,l⟩:=h;exact⟨k,i,m,rfl,Qa.mono (λa b e=>⟨j a b.1 e,b.2⟩) o k n,PE.mono (λa b e=>⟨j a b.1 e,b.2⟩) d i l⟩
end
def PE.parts {d:Nat->Prop}{e:Pe}{g:Tr}{i:List Tr}{f:List Nat}(h:PE d e (g::i) f):∃ b a,f=b::a/\Qa d e g b/\PE d e i a:=by
 rw[PE] at h;obtain⟨b,a,n,l,m,j⟩:=h;exact⟨b,a,l,Qa.mono (λk c _=>c.1) _ _ m,PE.mono (λk c _=>c.1) _ _ j⟩
def PE.length {d:Nat->Prop}{f:Pe}:∀ (b:List Tr) (a:List Nat),PE d f b a->a.length=b.length
 | [],a,h=>by rw[PE] at h;rw[h];rfl
 | j::b,a,h=>by
  obtain⟨i,e,rfl,g,c⟩:=h.parts;simp[PE.length b e c]
section
variable {I:Nat->Prop} {a:Pe}
include I a
def PE.nil:PE I a [] []:=by rw[PE]
def PE.pair {M:Nat}{e f:Tr}{d c:Nat}(h:Qa (λb=>I b/\b<M) a e d)(i:Qa (λb=>I b/\M<=b) a f c):PE I a [e,f] [d,c]:=by
 rw[PE];refine⟨d,[c],M,rfl,h,?_⟩;rw[PE];exact⟨c,[],a.heap.size,rfl,Qa.mono (λ_ g j=>⟨g,j⟩) _ _ i,PE.nil⟩
def PE.cons {c:Tr}{b:Nat}(h:Qa I a c b)(_:PE I a [] []):PE I a [c] [b]:=by
 rw[PE];exact⟨b,[],a.heap.size,rfl,Qa.mono (λ_ d e=>⟨d,e⟩) _ _ h,PE.nil⟩
end
def PE.append {M:Nat}{i:Pe}{l:List Tr}{e:List Nat}:∀ (d:List Tr) (g:List Nat) {c:Nat->Prop},PE (λb=>c b/\M<=b) i l e->PE (λb=>c b/\b<M) i d g->PE c i (d++l) (g++e)
 | [],g,c,j,h=>by rw[PE] at h;subst h;exact PE.mono (λb a _=>a.1) _ _ j
 | o::d,g,c,j,h=>by
  rw[PE] at h;obtain⟨n,k,p,rfl,f,m⟩:=h
  show PE c i (o::(d++l)) (n::(k++e))
  rw[PE];refine⟨n,k++e,min p M,rfl,Qa.mono (λb a _=>⟨a.1.1,by have f:=a.1.2;have m:=a.2;omega⟩) _ _ f,PE.append d k (PE.mono (λb a _=>⟨⟨a.1,by have f:=a.2;omega⟩,a.2⟩) _ _ j) (PE.mono (λb a _=>⟨⟨a.1.1,by have f:=a.2;omega⟩,a.1.2⟩) _ _ m)⟩
def Xa (b:Nat->Prop)(e:Pe):List Tr->List Nat->Prop
 | [],a=>a=[]
 | f::g,a=>∃ d c,a=d::c/\Qa b e f d/\Xa b e g c
def PE.nl {c:Nat->Prop}{e:Pe}:∀ (b:List Tr) (a:List Nat),PE c e b a->Xa c e b a
 | [],a,h=>by rw[PE] at h;exact h
 | j::b,a,h=>by
  obtain⟨i,d,rfl,g,f⟩:=h.parts;exact⟨i,d,rfl,g,PE.nl b d f⟩
def Xa.fH {I:Nat->Prop}{w w':Pe}(b:Vh I w w'):∀ (a:List Tr) (e:List Nat),Xa I w a e->Xa I w' a e
 | [],_,h=>h
 | _::a,_,⟨d,c,g,i,f⟩=>⟨d,c,g,Qa.fH b _ d i,Xa.fH b a c f⟩
def Xa.length {d:Nat->Prop}{f:Pe}:∀ (a:List Tr) (b:List Nat),Xa d f a b->b.length=a.length
 | [],_,h=>by rw[show _=_ from h];rfl
 | j::a,b,h=>by
  obtain⟨i,e,rfl,g,c⟩:=h;simp[Xa.length a e c]
def Xa.nil {a:Nat->Prop}{b:Pe}:Xa a b [] []:=rfl
def Xa.cons {a:Nat->Prop}{d:Pe}{e:Tr}{b:Nat}{f:List Tr}{c:List Nat}(h:Qa a d e b)(g:Xa a d f c):Xa a d (e::f) (b::c):=⟨b,c,rfl,h,g⟩
def Xa.append {c:Nat->Prop}{d:Pe}{g:List Tr}{f:List Nat}(e:Xa c d g f):∀ (b:List Tr) (a:List Nat),Xa c d b a->Xa c d (b++g) (a++f)
 | [],a,h=>by rw[show a=[] from h];exact e
 | l::b,a,h=>by
  obtain⟨m,j,rfl,k,i⟩:=h;exact Xa.cons k (Xa.append e b j i)
def NV (b:Nat)(f:Pe)(d:Tr)(e:Px):Prop:=∃ a,e=O5 a/\Qa (λc=>b<=c) f d a
def EV (d:Nat)(g:Pe)(b:Tr)(i:Px):Prop:=
 ∃ a c f,i=O5 a/\d<=a/\g.heap[a]? = some (Qc b.kd b.tx b.n c)/\g.ownsRow d 22 1 c f.length (f.map O5)/\c.ownBlock≠some a/\PE (λe=>d<=e/\e≠a/\c.ownBlock≠some e) g b.fJ f
def KV (b:Nat)(e:Pe)(f:List Tr)(d:Px):Prop:=
 ∃ a,e.ownsRow b 22 1 d a.length (a.map O5)/\PE (λc=>b<=c/\d.ownBlock≠some c) e f a
def an7 {e:Pe}{g a c:Nat}{d:Px}{b:Nat}{f:List Px}(h:e.ownsRow g a c d b f):e.ownsRow 0 a c d b f:=by
 refine⟨h.1,?_⟩
 rcases h.2 with j|⟨m,l,k,i,n,rest⟩
 ·exact fM j
 ·exact fU ⟨m,l,k,i,f3 _,rest⟩
def EV.nv {c:Nat}{f:Pe}{b:Tr}{e:Px}(h:EV c f b e):NV c f b e:=by
 obtain⟨l,n,m,rfl,i,a,d,_,g⟩:=h
 cases b with
 | mk o r q p=>
  refine⟨l,rfl,?_⟩;rw[Qa];exact⟨i,n,m,a,⟨an7 d,λj k=>(QD d j k).2⟩,PE.mono (λj a _=>⟨a.1,a.2.1⟩) _ _ g⟩
def Vh.Xe {R d:Nat}{e:Nat->Prop}{b c:Pe}(h:Ap R b.heap.size b c)(j:R<d)(i:∀ a,e a->d<=a):Vh e b c:=λa f g=>h.block a g (by have:=i a f;omega)
def NV.fH {R a:Nat}{w w':Pe}{b:Tr}{c:Px}(h:NV a w b c)(f:Ap R w.heap.size w w')(d:R<a):NV a w' b c:=by
 obtain⟨g,rfl,e⟩:=h;exact⟨g,rfl,Qa.fH (Vh.Xe f d λ_ h=>h) _ _ e⟩
def NV.mono {a B':Nat}{d:Pe}{b:Tr}{c:Px}(h:NV a d b c)(e:B'<=a):NV B' d b c:=by
 obtain⟨g,rfl,f⟩:=h;exact⟨g,rfl,Qa.mono (λi h _=>f9 e h) _ _ f⟩
def EV.fH {R a:Nat}{w w':Pe}{g:Tr}{i:Px}(h:EV a w g i)(b:Ap R w.heap.size w w')(e:R<a):EV a w' g i:=by
 obtain⟨f,p,o,rfl,l,c,d,k,j⟩:=h;exact⟨f,p,o,rfl,l,by rw[b.block f (fI c) O9];exact c,Rt (a:=λm=>a<=m) (Vh.Xe b e λ_ h=>h) (λm n=>(QD d m n).2) d,k,PE.fH (Vh.Xe b e λ_ h=>h.1) _ _ j⟩
def EV.mono {b B':Nat}{e:Pe}{c:Tr}{d:Px}(h:EV b e c d)(r:B'<=b):EV B' e c d:=by
 obtain⟨j,l,k,rfl,s,f,a,i,g⟩:=h;refine⟨j,l,k,rfl,by omega,f,?_,i,PE.mono (λm h _=>⟨by omega,h.2⟩) _ _ g⟩;refine⟨a.1,?_⟩;exact Hh
def KV.fH {R a:Nat}{w w':Pe}{e:List Tr}{f:Px}(h:KV a w e f)(d:Ap R w.heap.size w w')(c:R<a):KV a w' e f:=by
 obtain⟨k,b,g⟩:=h;exact⟨k,Rt (a:=λi=>a<=i) (Vh.Xe d c λ_ h=>h) (λi j=>(QD b i j).2) b,PE.fH (Vh.Xe d c λ_ h=>h.1) _ _ g⟩
def KV.nil (a:Nat)(b:Pe):KV a b [] Q8:=⟨[],⟨rfl,fM ⟨rfl,rfl⟩⟩,PE.nil⟩
def Ph (b:Pe)(a:Obj):(b.alloc a).heap[b.heap.size]? = some a:=by simpa using hD b a
def EV.new {c:Nat}{a:Pe}{m:List Tr}{b:Px}(h:KV c a m b)(o:c<=a.heap.size)(d:Int)(f:Py)(e:Int) :
  EV c (a.alloc (Qc d f e b)) (.mk d f e m) (O5 a.heap.size):=by
 obtain⟨p,i,n⟩:=h;have j:∀ g,Vh g a (a.alloc (Qc d f e b)):=λg k _ l=>gd a _ k l;refine⟨a.heap.size,b,p,rfl,o,Ph _ _,Rt (a:=λ_=>True) (j _) (λ_ _=>trivial) i,λh=>?_,PE.fH (j _) _ _ (PE.mono (λk h l=>⟨h.1,by omega,h.2⟩) _ _ n)⟩;exact absurd (QD i _ h).1 O9
def KV.row {f:Nat}{b:Pe}{j:List Tr}{a:List Nat}(h:PE (λd=>f<=d) b j a)(k:f<=b.heap.size)(e:a.length<=maxLen)(c:Array Px)(i:c.toList=a.map O5) :
  KV f (b.alloc (.cells c 22)) j (.slice (some (O7 b.heap.size 0)) a.length a.length):=by
 have l:∀ g,Vh g b (b.alloc (.cells c 22)):=λg d _ e=>gd b _ d e;have n:c.size=a.length:=by rw[<-mX,i,gu]
 refine⟨a,⟨by simp,fU ⟨b.heap.size,a.length,c,rfl,k,Ph _ _,Qp,e,by omega,?_⟩⟩,PE.fH (l _) _ _ (PE.mono (λd h e=>⟨h,λm=>by simp only[Value.ownBlock,hc] at m;omega⟩) _ _ h)⟩
 rw[i];exact iB P7
structure gy where
 R:Nat
 l:List Tk
 tb:Nat
 cap:Nat
 mS:Nat
 mT:Nat
 mV:Nat
 lo:Nat
def jG (a:Sg):Px:=.agg #[Pj a.tx,O3 a.kd,O3 a.parts,O3 a.str]
def tm (a:(Py × Px) × Nat):MapEntry:={ key:=Pj a.1.1,val:=a.1.2,born:=a.2 }
def mapOf (a:List (Py × Px)):Array MapEntry:=((a.zipIdx).map tm).toArray
def sN:Array MapEntry:=mapOf (ZH.map λa=>(a.tx,jG a))
def VK (R:Nat)(a:Nat):Px:=.func (.func a) #[PL R 0] #[]
def vY:Nat->Nat
 | 0=>147
 | 1=>148
 | 2=>149
 | 3=>150
 | 4=>151
 | 5=>152
 | 6=>153
 | _=>154
def oF:Nat->Nat
 | 0=>155
 | 1=>156
 | _=>157
def rz (R:Nat):Array MapEntry:=mapOf (U5.map λa=>(a.1,VK R (vY a.2)))
def uS (R:Nat):Array MapEntry:=mapOf (Ue.map λa=>(a.1,VK R (oF a.2)))
def Vp:Array Px:=(hv.flatMap λa=>[Pj a.1,O3 a.2]).toArray
def gy.tv (a:gy):Px:=.slice (some (O7 a.tb 0)) a.l.length a.cap
structure ky (c:gy)(w:Pe):Prop where
 ends:Ends c.l
 tokens:∃ b5,w.heap[c.tb]? = some (PZ b5 144)/\c.l.length<=c.cap/\c.cap<=maxLen/\b5.size=c.cap * 4/\b5.toList.take (c.l.length * 4)=Sj c.l
 ntb:c.tb≠c.R
 gJ:w.heap[c.mS]? = some (.map sN 14)
 nS:c.mS≠c.R
 Ku:w.heap[c.mT]? = some (.map (rz c.R) 12)
 nT:c.mT≠c.R
 rP:w.heap[c.mV]? = some (.map (uS c.R) 3)
 nV:c.mV≠c.R
 len:c.l.length<=3001
 hI:∃ t fr,w.heap[4]? = some (.cells Vp t fr)
 nH:4≠c.R
 vx:c.tb<c.lo/\c.mS<c.lo/\c.mT<c.lo/\c.mV<c.lo/\4<c.lo/\c.R<c.lo
 size:c.lo<=w.heap.size
def ky.fH {b:gy}{c:Nat}{w w':Pe}(h:ky b w)(a:Ap b.R c w w')(z:b.lo<=c):ky b w':=by
 obtain⟨o,⟨l,p,j⟩,d,k,e,m,f,s,g,r,⟨u,n,t⟩,i,q,v⟩:=h;exact⟨o,⟨l,by rw[a.block _ O9 d];exact p,j⟩,d,by rw[a.block _ O9 e];exact k,e,by rw[a.block _ O9 f];exact m,f,by rw[a.block _ O9 g];exact s,g,r,⟨u,n,by rw[a.block _ O9 i];exact t⟩,i,q,f9 v a.size⟩
def Vn (a:gy)(c b:Nat):Obj:=PZ #[a.tv,O3 (c:Int),O3 (b:Int),.map (some a.mS),.map (some a.mT),.map (some a.mV)] 233
structure QC (c:gy)(w:Pe)(i d:Nat):Prop where
 base:ky c w
 gw:w.heap[c.R]? = some (Vn c i d)
 lt:i<c.l.length
 deep:d<=30
def QC.fH {b:gy}{w w':Pe}{d c:Nat}(h:QC b w d c)(a:Pn w w'):QC b w' d c:=
 ⟨h.base.fH (Ap.of a) h.base.size,by rw[a.block _ (fI h.gw)];exact h.gw,h.lt,h.deep⟩
def QC.ap {a:gy}{c:Nat}{g b:Pe}{f e:Nat}(h:QC a g f e)(d:Below c g b)(i:a.lo<=c):QC a b f e:=
 ⟨h.base.fH (Ap.of d) i,by rw[d.block _ (by have:=h.base.vx;omega)];exact h.gw,h.lt,h.deep⟩
def QC.n3 {a:gy}{b:Pe}{d c:Nat}(h:QC a b d c):a.R<b.heap.size:=fI h.gw
section
variable {b:Pe} {a:Nat} {c:Array Px} {d:TypeId}
include b a c d
def cell_of {f:Nat × Nat}(h:b.heap[a]? = some (.cells c d f))(e:Nat):b.cell? (O7 a e)=c[e]?:=by
 simp[World.cell?,h]
def TB (h:b.heap[a]? = some (PZ c d))(e:Nat):b.frozen? (O7 a e)=false:=by
 simp[World.frozen?,h]
end
section
variable {a:gy} {b:Pe} {c d:Nat} (h:QC a b c d)
include a b c d h
def QC.c0:b.cell? (O7 a.R 0)=some a.tv:=by rw[cell_of h.gw];rfl
def QC.c1:b.cell? (O7 a.R 1)=some (O3 (c:Int)):=by rw[cell_of h.gw];rfl
def QC.c2:b.cell? (O7 a.R 2)=some (O3 (d:Int)):=by rw[cell_of h.gw];rfl
def QC.c3:b.cell? (O7 a.R 3)=some (.map (some a.mS)):=by rw[cell_of h.gw];rfl
def QC.c4:b.cell? (O7 a.R 4)=some (.map (some a.mT)):=by rw[cell_of h.gw];rfl
def QC.c5:b.cell? (O7 a.R 5)=some (.map (some a.mV)):=by rw[cell_of h.gw];rfl
def QC.fz (e:Nat):b.frozen? (O7 a.R e)=false:=TB h.gw e
end
def gi {d:Pe}{a b:Nat}{e:Array Px}{g:TypeId}{f:Nat × Nat}(h:d.heap[a]? = some (.cells e g f))(c:Px) :
  (d.setCell (O7 a b) c).heap[a]? = some (.cells (e.setIfInBounds b c) g f):=by
 obtain⟨k,i⟩:=h8.1 h;have j:a<(d.setCell (O7 a b) c).heap.size:=by simpa[World.setCell] using k
 rw[h8];refine⟨j,?_⟩;simp only[World.setCell,Array.getElem_modify_self,i];rfl
section
variable {a:gy} {b:Pe} {d e:Nat} (h:QC a b d e)
include a b d e h
def QC.go (c:Nat)(f:c<a.l.length):QC a (b.setCell (O7 a.R 1) (O3 (c:Int))) c e:=
 ⟨h.base.fH (Ap.setCell (R:=a.R) (Ap.refl _ _ _) (p:=(O7 a.R 1)) (fU rfl) _) h.base.size,by rw[gi h.gw];rfl,f,h.deep⟩
def QC.aLg (c:Nat)(f:c<=30):QC a (b.setCell (O7 a.R 2) (O3 (c:Int))) d c:=
 ⟨h.base.fH (Ap.setCell (R:=a.R) (Ap.refl _ _ _) (p:=(O7 a.R 2)) (fU rfl) _) h.base.size,by rw[gi h.gw];rfl,h.lt,f⟩
end
def pV (a:Int)(b:Nat):List PanicEntry:=[{ v:=.iface 148 (.agg #[O3 a,O3 (b:Int)]),recovered:=false }]
def QT {α:Type}(c:gy)(b:Pe)(g:Nat)(f:Pe->α->Px->Prop)(j:PR α)(d:Ending)(a:Pe):Prop:=
 match j with
 | .ok x i=>(∃ e,d=PK e/\f a x e)/\QC c a i g/\Ap c.R b.heap.size b a
 | .f0 e i=>d=.panicked (pV e i)/\Ap c.R b.heap.size b a
 | .out=>True
def pt {a b:Py}(h:a≠b):(a.toList==b.toList)=false:=by
 rw[gG,hB,hB];exact λc=>h (Go.WideShapes.bytes_inj c)
def wN {a b:Py}(h:a=b):(a.toList==b.toList)=true:=by rw[h];exact lB _
section
variable {c a:Py} {b:List UInt8} (d:a.data.toList=b)
include c a b d
def Vt (h:c≠a):(c.toList==b)=false:=by
 rw[<-d,<-hB];exact pt h
def VL (h:c=a):(c.toList==b)=true:=by
 rw[<-d,<-hB];exact wN h
end
def ke (a:Tk):Px:=.agg #[O3 a.kd,Pj a.tx,O3 a.n,O3 (a.pl:Int)]
abbrev Qi (a:gy):Px:=PL a.R 0
def H8:∀ (c:List Tk) (b a:Nat),b<c.length->a<4->(Sj c)[b * 4+a]? =(XF (Qe c b))[a]?
 | [],b,a,h,_=>absurd h P7
 | f::c,0,a,_,d=>by
  simp only[Sj,hL,Qe,mB,i1,ib];rw[ht (by simp[XF];omega)]
 | f::c,b+1,a,h,d=>by
  have e:=H8 c b a (by simpa using h) d;simp only[Sj,hL,Qe,List.getD_cons_succ] at e ⊢;rw[hm (by simp[XF];omega)]
  rw[show (b+1) * 4+a - (XF f).length=b * 4+a by simp[XF];omega]
  exact e
def ky.tok {a:gy}{d:Pe}(h:ky a d)(b c:Nat)(i:b<a.l.length)(f:c<4):d.cell? (O7 a.tb (b * 4+c))=(XF (Qe a.l b))[c]?:=by
 obtain⟨l,e,m,j,k,g⟩:=h.tokens;rw[cell_of e,<-H8 a.l b c i f,<-g,mQ O9,k6]
def ky.Sa {a:gy}{b:Pe}(h:ky a b):a.tb<b.heap.size:=by
 obtain⟨d,c,_⟩:=h.tokens;exact fI c
def Ti (a:gy)(c:Pe)(b e:Nat)(h:QC a c b e) :
  Pq 158 #[Qi a] c λf d=>f=PK (ke (Qe a.l b))/\Pn c d:=by
 have o:c.cell? (O7 a.R 0)=some (.slice (some (O7 a.tb 0)) a.l.length a.cap):=h.c0;have p:=h.c1;have k:=h.n3;have m:=h.base.Sa;have i:(b:Int)<(a.l.length:Int):=by have:=h.lt;omega
 have g:c.cell? (O7 a.tb (b * 4))=some (O3 (Qe a.l b).kd):=h.base.tok b 0 h.lt Pm;have j:c.cell? (O7 a.tb (b * 4+1))=some (Pj (Qe a.l b).tx):=h.base.tok b 1 h.lt Pm;have l:c.cell? (O7 a.tb (b * 4+2))=some (O3 (Qe a.l b).n):=h.base.tok b 2 h.lt Pm;have n:c.cell? (O7 a.tb (b * 4+3))=some (O3 ((Qe a.l b).pl:Int)):=h.base.tok b 3 h.lt Pm;clear h;go_enter func158,ntmps158;go_wp2_with fail
 go_region
 go_wp2_with fail;exact hf (v:=ke (Qe a.l b)) (by simp[results,results158,go_sem,ke]) rfl ⟨rfl,QJ.drew⟩
def FX {a b:Py}(h:a=b):Ending.returned (Pj a)=PK (Pj b):=by rw[h]
def TN (c:gy)(i:Pe)(f k:Nat)(h:QC c i f k) :
  Pq 221 #[Qi c] i λb l=>b=PK (Pj (fx c.l f))/\Pn i l:=by
 have e:=Ti c i f k h;clear h
 cases j:(Qe c.l f).kd==2
 ·
  cases g:(Qe c.l f).kd==5
  all_goals
   go_enter func221,ntmps221;go_wp2_with fail;refine cm e ?_;rintro b m ⟨rfl,a⟩;have d:=a;unfold ke;go_wp2;go_ret;exact⟨FX (by simp[fx,j,g]),d.alloc d.size _⟩
 ·go_enter func221,ntmps221;have g{G}(h:G:=by
  have d:=a;unfold ke;go_wp2;go_ret;exact⟨FX (by simp[fx,j]),d.alloc d.size _⟩):=O6 h;exact pc
section
variable {α:Type} {c:gy} {b a:Pe} {f:Nat} {e:Pe->α->Px->Prop} {d:PR α}
include α c b a f e d
def QV {g:Int}{i:Nat}(j:d=.f0 g i)(k:Ap c.R b.heap.size b a) :
  QT c b f e d (.panicked (pV g i)) a:=by rw[j];exact⟨rfl,k⟩
def Uz {x:α}{i:Nat}{g:Px}(j:d=.ok x i)(l:e a x g)(m:QC c a i f)(k:Ap c.R b.heap.size b a) :
  QT c b f e d (PK g) a:=by rw[j];exact⟨⟨g,rfl,l⟩,m,k⟩
end
def BN (e:gy)(a:Int)(b:Tk)(c:Pe) :
  Pq 279 #[Qi e,O3 a,ke b] c λf d=>f=.panicked (pV a b.pl)/\Pn c d:=by
 unfold ke;go_enter func279,ntmps279;go_wp2_with fail;exact⟨rfl,rfl,QJ⟩
def VX (c:gy)(i:Int)(f:Pe)(d j:Nat)(h:QC c f d j) :
  Pq 222 #[Qi c,O3 i] f λb k=>b=.panicked (pV i (Qe c.l d).pl)/\Pn f k:=by
 have e:=Ti c f d j h;go_enter func222,ntmps222;have g{G}(h:G:=by
 have n:=BN c i (Qe c.l d) m;go_wp2_with fail;refine cm n ?_;rintro b o ⟨rfl,l⟩;exact⟨rfl,rfl,a.trans (l.mono a.size)⟩):=O6 h;exact pc
def QC.sn {a:gy}{e:Pe}{i c:Nat}(h:QC a e i c)(b:Nat)(f:b<a.l.length){d:Int}(g:d=(b:Int)):QC a (e.setCell (O7 a.R 1) (O3 d)) b c:=by
 subst g;exact h.go b f
def rX {a:gy}{b d:Pe}(e:Pn b d)(f:Px)(c:Nat):Ap a.R b.heap.size b (d.setCell (O7 a.R c) f):=
 Ap.setCell (R:=a.R) (Ap.of e) (p:=(O7 a.R c)) (fU rfl) _
section
variable (c:gy) (i:Py) (f:Pe) (d j:Nat) (h:QC c f d j)
include c i f d j h
def TM (n:fx c.l d=i)(o:i≠O8) :
  Pq 223 #[Qi c,Pj i] f λb l=>b=PK (Pv true)/\QC c l (d+1) j/\Ap c.R f.heap.size f l:=by
 have e:=TN c f d j h;have p:d+1<c.l.length:=XD h.base.ends h.lt n o;have r:=h.base.len;subst n;clear o;go_enter func223,ntmps223;have g{G}(h:G:=by
 have k:=h.fH a;have s:=k.c1;have q:=k.fz;go_wp2;go_ret;exact⟨rfl,k.sn (d+1) p O9,rX a _ _⟩):=O6 h;exact pc
def UA (k:fx c.l d≠i) :
  Pq 223 #[Qi c,Pj i] f λb l=>b=PK (Pv false)/\Pn f l:=by
 have e:=TN c f d j h;have n:=pt k;clear k;go_enter func223,ntmps223;have g{G}(h:G:=by
 go_wp2;go_ret;exact⟨rfl,a⟩):=O6 h;exact pc
end
abbrev UV:Pe->Unit->Px->Prop:=λ_ _ a=>a=.tuple #[]
def Qh (c:gy)(f:Py)(l:Pe)(d k:Nat)(h:QC c l d k)(o:f≠O8) :
  Pq 225 #[Qi c,Pj f] l (QT c l k UV (Qm c.l f d)):=by
 by_cases i:fx c.l d=f
 ·have e:=TM c f l d k h i o;have j:Qm c.l f d=.ok () (d+1):=by unfold Qm;rw[fL i]
  rw[j];clear o i j;go_enter func225,ntmps225;go_wp2_with fail;refine cm e ?_;rintro b m ⟨rfl,a,g⟩;have n:=a;go_wp2
  go_end0
  exact Uz rfl rfl n g
 ·have e:=UA c f l d k h i;have j:Qm c.l f d=.f0 3 (Qe c.l d).pl:=by unfold Qm;rw[fK i];rfl
  rw[j];have n:=h;clear o i j;go_enter func225,ntmps225;have g{G}(h:G:=by
  have q:=VX c 3 m d k (n.fH a);go_wp2_with fail;refine cm q ?_;rintro b r ⟨rfl,p⟩;exact⟨rfl,QV rfl (Ap.of (a.trans (p.mono a.size)))⟩):=O6 h;exact pc
def ty (a:Tk)(b:Pe):(Instr.field 144 (.agg #[O3 a.kd,Pj a.tx,O3 a.n,O3 (a.pl:Int)]) 0).run prog b=.ok (O3 a.kd) b:=by kernel_rfl
def BF (a:Tk)(b:Pe):(Instr.field 144 (.agg #[O3 a.kd,Pj a.tx,O3 a.n,O3 (a.pl:Int)]) 1).run prog b=.ok (Pj a.tx) b:=by kernel_rfl
def x6 (c:gy)(f:Pe)(d i:Nat)(h:QC c f d i) :
  Pq 228 #[Qi c] f λb j=>b=PK (Pv (gS c.l d))/\Pn f j:=by
 have e:=Ti c f d i h;go_enter func228,ntmps228;have g{G}(h:G:=by
 have k:=ty (Qe c.l d);unfold ke;go_wp2;go_ret;exact⟨rfl,a⟩):=O6 h;exact pc
abbrev SV:Pe->Py->Px->Prop:=λ_ a b=>b=Pj a
def gH (a:gy)(f:Pe)(b e:Nat)(h:QC a f b e) :
  Pq 220 #[Qi a] f (QT a f e SV (gC a.l b)):=by
 have n:=x6 a f b e h
 by_cases d:(Qe a.l b).kd=1
 ·have k:gC a.l b=.ok (Qe a.l b).tx (b+1):=by unfold gC;rw[fL d]
  have r:b+1<a.l.length:=V6 h.base.ends h.lt (by rw[d];decide)
  have w:=h.base.len;have j:gS a.l b=true:=by unfold gS;rw[d];rfl
  have q{G}(h:G:=by
  have l:=m.fH c;have t:=Ti a p b e l;go_wp2_with fail;refine cm t ?_;rintro o u ⟨rfl,c⟩;have s:=g.trans (c.mono g.size);have i:=l.fH c;have A:=i.c1;have v:=i.fz;have z:=BF (Qe a.l b);unfold ke;go_wp2;go_ret;exact Uz rfl rfl (i.sn (b+1) r O9) (rX s _ _)):=O6 h;exact Be
 ·have k:gC a.l b=.f0 3 (Qe a.l b).pl:=by unfold gC;rw[fK d];rfl
  have j:gS a.l b=false:=by unfold gS;exact gG.2 d
  have q{G}(h:G:=by
  have l:=VX a 3 p b e (m.fH c);go_wp2_with fail;refine cm l ?_;rintro o u ⟨rfl,i⟩;exact⟨rfl,QV rfl (Ap.of (g.trans (i.mono g.size)))⟩):=O6 h;exact Be
def QA (e:Int)(g:Py)(a:Px)(b:Pe)(j:∃ c f d,a=.slice c f d) :
  Pq 162 #[O3 e,Pj g,a] b λk i=>k=PK (O5 b.heap.size)/\i=b.alloc (Qc e g 0 a):=by
 obtain⟨c,f,d,rfl⟩:=j;go_enter func162,ntmps162;go_wp2;go_ret;exact⟨rfl,rfl⟩
def Up (a b:Py):(a==b)=decide (a=b):=by
 by_cases h:a=b
 ·subst h;rw[g4 rfl]
  cases a with
  | mk a=>
   show (a==a)=true
   exact lB _
 ·rw[gN h]
  cases a with
  | mk a=>cases b with
   | mk b=>
    show (a==b)=false
    rw[gG];exact λc=>h (by rw[c])
def Ag (e:Py):∀ (c:List (Py × Px)) (d a:Nat),
  ∃ f,Instr.findNow .string (Pj e) ((c.zipIdx d).map tm) a=some f/\f.map (·.2)=(c.find? (λb=>decide (e=b.1))).map (·.2)
 | [],d,a=>⟨none,rfl,rfl⟩
 | b::c,d,a=>by
  simp only[k9,gW,Instr.findNow,tm,Instr.sameNow,Up,kk]
  cases h:decide (e=b.1)
  ·simp only;exact Ag e c (d+1) (a+1)
  ·exact⟨some (a,b.2),rfl,rfl⟩
def zB (m o:TypeId)(l g:Nat)(b:List (Py × Px))(c:Py)(n:Px)(a:Pe)(u:prog.underlying m=some (.map 9 o))(t:a.heap[l]? = some (.map (mapOf b) g))(p:(zeroValue o).run prog a=.ok n a) :
  (Instr.lookup m (.map (some l)) (Pj c) true).run prog a=.ok (.tuple #[((b.find? (λd=>decide (c=d.1))).map (·.2)).getD n,Pv (b.find? (λd=>decide (c=d.1))).isSome]) a:=by
 obtain⟨k,v,e⟩:=Ag c b 0 0;have j:=j2;have q:(Instr.findKey 9 (Pj c) (mapOf b).toList).run prog a=.ok k a:=by
  refine sy ?_;simp only[hM,mapOf];rw[v];rfl
 unfold Instr.lookup;rw[gR,ho u a];have r:∀ f,(Instr.checkKey f 10000 9 (Pj c)).run prog a=.ok () a:=tL
 have s:(getObj l).run prog a=.ok (.map (mapOf b) g) a:=by simp[getObj,Sem.run,t]
 exact Hk
def n5:Px:=.agg #[Qn,O3 0,O3 0,O3 0]
def ml (a:Option Sg):Px:=match a with|some b=>jG b|none=>n5
def YB (c:gy)(a:Py)(b:Pe)(h:b.heap[c.mS]? = some (.map sN 14)) :
  (Instr.lookup 229 (.map (some c.mS)) (Pj a) true).run prog b=.ok (.tuple #[ml (kW a),Pv (kW a).isSome]) b:=by
 rw[zB 229 275 c.mS 14 _ a n5 b underlying229 h Qs];unfold kW;rw[jM];simp only[jH]
 cases ZH.find? (λd=>decide (a=d.tx)) <;> rfl
def Fy (R:Nat)(a:Option Nat):Px:=match a with|some b=>VK R (vY b)|none=>.nilFunc
def L6 (R:Nat)(a:Option Nat):Px:=match a with|some b=>VK R (oF b)|none=>.nilFunc
def Jz (a:gy)(b:Py)(c:Pe)(h:c.heap[a.mT]? = some (.map (rz a.R) 12)) :
  (Instr.lookup 231 (.map (some a.mT)) (Pj b) true).run prog c=.ok (.tuple #[Fy a.R (RI U5 b),Pv (RI U5 b).isSome]) c:=by
 rw[zB 231 281 a.mT 12 _ b .nilFunc c lM h Qs];unfold RI;rw[jM];simp only[jH]
 cases U5.find? (λd=>decide (b=d.1)) <;> rfl
def DH (a:gy)(b:Py)(c:Pe)(h:c.heap[a.mV]? = some (.map (uS a.R) 3)) :
  (Instr.lookup 231 (.map (some a.mV)) (Pj b) true).run prog c=.ok (.tuple #[L6 a.R (RI Ue b),Pv (RI Ue b).isSome]) c:=by
 rw[zB 231 281 a.mV 3 _ b .nilFunc c lM h Qs];unfold RI;rw[jM];simp only[jH]
 cases Ue.find? (λd=>decide (b=d.1)) <;> rfl
def aCR:Vp.size=16:=by decide +kernel
def aKL (a:Nat)(c:a<8)(b:Pe):(Instr.index 285 (.agg Vp) (O3 (a:Int))).run prog b=.ok (.agg #[Pj (hv.getD a (O8,0)).1,O3 (hv.getD a (O8,0)).2]) b:=by
 have h:a=0\/a=1\/a=2\/a=3\/a=4\/a=5\/a=6\/a=7:=O9
 rcases h with rfl|rfl|rfl|rfl|rfl|rfl|rfl|rfl <;> (show _=_;kernel_rfl)
def aCS {d:Py}{a:Nat}(e:a<8)(f:∀ c,c<a->d≠(hv.getD c (O8,0)).1)(h:d=(hv.getD a (O8,0)).1):Q7 d=(hv.getD a (O8,0)).2:=by
 have i:∀ (b:List (Py × Int)) (a:Nat),a<b.length->(∀ c,c<a->d≠(b.getD c (O8,0)).1)->d=(b.getD a (O8,0)).1->(RI b d).getD 0=(b.getD a (O8,0)).2:=by
  intro b
  induction b with
  | nil=>intro a e;exact absurd e P7
  | cons k b g=>
   intro a e f h;unfold RI;rw[kk]
   cases a with
   | zero=>
    simp only[mB] at h ⊢;rw[g4 h];rfl
   | succ a=>
    have:=f 0 O9;simp only[mB] at this;rw[gN this];exact g a (by simpa using e) (λc j=>by simpa using f (c+1) O9) (by simpa using h)
 exact i hv a (by simpa[hv] using e) f h
def ax6 {b:Py}(g:∀ a,a<8->b≠(hv.getD a (O8,0)).1):Q7 b=0:=by
 unfold Q7 RI;have:hv.find? (λd=>decide (b=d.1))=none:=by
  rw[lz];intro d f;obtain⟨a,c,rfl⟩:=kz f;have e:a<8:=by simpa[hv] using c
  have:=g a e;rw[g8,ga c] at this;simpa using this
 rw[this];rfl
def ahv (i:Py)(j:Pe)(z:TypeId)(v:Nat × Nat)(d:j.heap[4]? = some (.cells Vp z v)) :
  Pq 278 #[Pj i] j λn B=>n=PK (O3 (Q7 i))/\Pn j B:=by
 have u:=Y d;obtain⟨l,f⟩:=xE Vp;have w:∀ g:Nat,g<8->∀ q,(Instr.index 285 (.agg l) (O3 (g:Int))).run prog q=.ok (.agg #[Pj (hv.getD g (O8,0)).1,O3 (hv.getD g (O8,0)).2]) q:=by rw[f];exact aKL
 have t:l.size=16:=by rw[f];exact aCR
 rw[<-f] at u;have I:=Y w;have H:=Y t;clear d w f t;go_enter func278,ntmps278
 go_wp2_with (refine jJ rfl 285 _ rfl 4 rfl z l v _ u.out underlying285 rfl (by rw[H.out];kernel_rfl) ?_)
 go_loopw [6] (λo wr=>∃ a:Nat,a<=8/\o=O3 a/\(∀ b,b<a->i≠(hv.getD b (O8,0)).1)/\Pn j wr) (λo _=>8 - (intOf o).toNat)
 case atStart=>exact⟨0,f3 _,rfl,λb k=>absurd k (lf _),RP⟩
 case round=>
  obtain⟨a,L,rfl,s,e⟩:=hrel;have m:=Y s;clear s
  by_cases r:a<8
  ·have E:=O4 I a r;obtain⟨F,d⟩:=xE ((hv.getD a (O8,0)).1);obtain⟨M,p⟩:=xH ((hv.getD a (O8,0)).2);rw[<-d,<-p.out] at E;have A:=Y d;clear d
   by_cases c:F=i
   ·have D:=wN c;have HP:=Y c;clear c;go_wp2;go_ret;refine⟨tJ ?_,e.alloc e.size _⟩;rw[aCS r m.out (by rw[<-A.out];exact HP.out.symm),p.out]
   ·have D:=pt c;have HP:=Y c;clear c;go_wp2
    go_roundw
    case rel=>exact⟨a+1,by omega,by go_num,λb k=>by (by_cases C:b=a);(rw[C,<-A.out];exact λn=>O4 HP n.symm);exact O4 m b O9,e.alloc e.size _⟩
    case measure=>simp[intOf];omega
  ·go_wp2;go_ret;exact⟨tJ (ax6 (λb k=>O4 m b O9)).symm,e⟩
def sI (c:gy)(f:Pe)(d j:Nat)(h:QC c f d j)(l:(Qe c.l d).kd≠6) :
  Pq 219 #[Qi c] f λb k=>b=PK (O3 (Q7 (Qe c.l d).tx))/\QC c k (d+1) j/\Ap c.R f.heap.size f k:=by
 have e:=Ti c f d j h;have q:d+1<c.l.length:=V6 h.base.ends h.lt l;have w:=h.base.len;clear l;go_enter func219,ntmps219;have g{G}(h:G:=by
 have p:=a;have o:=h.fH a;obtain⟨u,t,n⟩:=o.base.hI;have s:=ahv (Qe c.l d).tx m u t n;have z:=BF (Qe c.l d);clear n;unfold ke;go_wp2_with fail;refine cm s ?_;rintro b B ⟨rfl,a⟩;have r:=p.trans (a.mono p.size);have i:=o.fH a;have A:=i.c1;have v:=i.fz;go_wp2;go_ret;exact⟨rfl,i.sn (d+1) q O9,rX r _ _⟩):=O6 h;exact pc
def hs (b:gy)(g:Nat)(f:Nat->Pe->Tr->Px->Prop)(i:Nat->Nat->PR Tr):Prop:=
 ∀ a c e d,i c e=d->d≠.out->QC b a e c->Pq g #[Qi b] a (QT b a c (f a.heap.size) d)
def RD (R b:Nat)(a:Pe):(Instr.makeFunc (.func b) #[PL R 0] #[]).run prog a=.ok (VK R b) a:=rfl
def QC.KP {b:gy}{e:Pe}{c i:Nat}(h:QC b e c i)(a:Nat)(f:a<=30){d:Int}(g:d=(a:Int)):QC b (e.setCell (O7 b.R 2) (O3 d)) c a:=by
 subst g;exact h.aLg a f
def z7 (a:gy)(m:Nat)(q:Nat->Nat->PR Tr)(t:hs a m NV q)(C:WM m)
  (c:Pe) (b i:Nat) (f:PR Tr) (e:Qw a.l q b i=f) (g:f≠.out) (h:QC a c i b):Pq 159 #[Qi a,VK a.R m] c (QT a c b (NV c.heap.size) f):=by
 have s:=h.c2;have u:=h.fz;have p:=h.deep
 by_cases n:b=30
 ·have k:=VX a 4 c i b h;subst n;unfold Qw at e;rw[fL rfl] at e;have j:=Y e;clear e g C p;go_enter func159,ntmps159;go_wp2_with fail;refine cm k ?_;rintro A E ⟨rfl,d⟩;exact⟨rfl,QV j.out.symm (Ap.of d)⟩
 ·unfold Qw at e;rw[fK n] at e;have H:((b:Int)==30)=false:=gG.2 O9;have d:Hid _:=t (c.setCell (O7 a.R 2) (O3 ((b:Int)+1))) (b+1) i f e g (h.KP (b+1) O9 O9);have z:=Y g;clear e g;unfold VK;go_enter func159,ntmps159;go_wp2_with fail;refine YL ?_;intro A E o
  cases f with
  | out=>exact absurd rfl z.out
  | f0 l r=>
   obtain⟨rfl,k⟩:=o;refine⟨rfl,QV rfl ?_⟩;exact(rX (a:=a) (f2 _ c) _ 2).trans (by simpa using k)
  | ok x M=>
   obtain⟨⟨r,rfl,w⟩,l,k⟩:=o;have D:=(rX (a:=a) (f2 _ c) (O3 ((b:Int)+1)) 2).trans (by simpa using k);have I:=l.c2;have F:=l.fz;clear u s;go_wp2;go_ret;have B:=λr=>D.trans (Ap.setCell (R:=a.R) (B:=c.heap.size) (Ap.refl _ _ _) (p:=(O7 a.R 2)) (fU rfl) r);have v:=h.n3;refine Uz rfl ?_ (l.KP b p O9) (B _);exact NV.fH (R:=a.R) (by simpa using w) (Ap.setCell (R:=a.R) (Ap.refl _ _ _) (p:=(O7 a.R 2)) (fU rfl) _) v
def TG {g:Pe}{i:Nat}{f:Px}{a:List Nat}(h:g.ownsRow i 22 1 f a.length (a.map O5))(r:0<a.length) :
  ∃ c d,f=.slice (some (O7 c 0)) a.length d/\∀ b,(e:b<a.length)->g.cell? (O7 c b)=some (O5 a[b]):=by
 rcases h.2 with q|⟨c,d,l,k,n,m,s,o,p,j⟩
 ·omega
 ·refine⟨c,d,k,λb e=>?_⟩;rw[cell_of m,<-k6];have:(l.toList.take (a.length * 1))[b]? =(a.map O5)[b]?:=by rw[j]
  rw[mQ O9] at this;rw[this,i6,ga e];rfl
def TK {i:Pe}{e:Nat}{d:Px}{c:Nat}{j:List Px}(h:i.ownsRow e 22 1 d c j):∃ f a,d=.slice f c a:=by
 rcases h.2 with b|⟨l,a,k,g,_⟩
 ·exact⟨none,0,by rw[b.1,b.2]⟩
 ·exact⟨_,a,g⟩
def YD {a:Tr}(h:∀ b e c d,a.fJ=b::e->b.fJ=c::d->b.kd=15->c.kd=18->c.tx≠nn):VJ a=a:=by
 unfold VJ
 split
 ·rename_i m q o b n j c p k l d e
  rw[fK];rintro⟨f,g,i⟩;exact h _ _ _ _ rfl rfl f g i
 ·rfl
def ahw {a b c:Tr}{k j:List Tr}(i:a.fJ=b::k)(d:b.fJ=c::j)(f:b.kd=15)(e:c.kd=18)(g:c.tx=nn):VJ a=.mk a.kd WO a.n a.fJ:=by
 cases a with
 | mk t w v u=>
  simp only[Tr.fJ] at i;subst i
  cases b with
  | mk l o q n=>
   simp only[Tr.fJ] at d;subst d
   cases c with
   | mk m p r s=>
    simp only[Tr.kd,Tr.tx] at f e g;simp only[VJ,Tr.kd,Tr.n,Tr.fJ];rw[fL ⟨f,e,g⟩]
def EV.text {i:Nat}{c:Pe}{e:Tr}{d:Nat}(h:EV i c e (O5 d))(g:Py):EV i (c.setCell (O7 d 1) (Pj g)) (.mk e.kd g e.n e.fJ) (O5 d):=by
 obtain⟨b,s,r,n,o,f,m,j,l⟩:=h;have:b=d:=by simpa[O5] using n.symm
 subst this;have k:∀ a,a≠b->(c.setCell (O7 b 1) (Pj g)).heap[a]? = c.heap[a]?:=λa f=>g1 c (O7 b 1) _ a f;refine⟨b,s,r,rfl,o,by rw[gi f];rfl,?_,j,PE.fH (λa h _=>k a h.2.1) _ _ l⟩
 exact Rt (a:=λa=>a≠b) (λa h _=>k a h) (λt q p=>j (by rw[q,p])) m
def fZ {b:Pe}{a:Nat}{c d:Int}{e:Py}{f:Px}(h:b.heap[a]? = some (Qc c e d f)) :
  b.cell? (O7 a 0)=some (O3 c)/\b.cell? (O7 a 1)=some (Pj e)/\b.cell? (O7 a 2)=some (O3 d)/\b.cell? (O7 a 3)=some f/\(∀ g,b.frozen? (O7 a g)=false):=
 ⟨by rw[cell_of h];rfl,by rw[cell_of h];rfl,by rw[cell_of h];rfl,by rw[cell_of h];rfl,TB h⟩
section
variable {d:Nat->Prop} {b:Pe} {a:Tr}
include d b a
def Qa.opens {f:Nat}(h:Qa d b a f):∃ e c,b.heap[f]? = some (Qc a.kd a.tx a.n e)/\b.ownsRow 0 22 1 e c.length (c.map O5)/\PE d b a.fJ c:=by
 cases a with
 | mk m p o n=>
  rw[Qa] at h;obtain⟨_,e,c,k,i,j⟩:=h;exact⟨e,c,k,i.1,PE.mono (λl g _=>g.1) _ _ j⟩
def PE.head {j:List Tr}{f:List Nat}(h:PE d b (a::j) f):∃ c e,f=c::e/\Qa d b a c:=by
 obtain⟨c,e,g,i,_⟩:=h.parts;exact⟨c,e,g,i⟩
end
def LZ (e:Tr):Prop:=∀ a d,e.fJ=a::d->a.kd=15->∃ c b,a.fJ=c::b
def Ze (E:Nat)(g:Tr)(B:Px)(u:Pe)(h:EV E u g B)(ai:LZ g) :
  Pq 161 #[B] u λc I=>c=PK B/\EV E I (VJ g) B/\Below E u I:=by
 have U:=h;obtain⟨aD,aX,H,rfl,m,l,N,p,D⟩:=h;obtain⟨_,_,_,aW,au⟩:=fZ l;have HP:=Y m;have d:=PE.length _ _ D
 cases a:g.fJ with
 | nil=>
  rw[a] at d;have s:H.length=0:=d;obtain⟨e,ap,b⟩:=TK N;rw[s] at b;subst b;have n:=Y (YD (a:=g) (λq T j ak c=>by rw[a] at c;cases c))
  clear l p d a s m au;exact tK
 | cons q T=>
  rw[a] at d D;have s:0<H.length:=by rw[d];simp
  obtain⟨ax,ap,b,t⟩:=TG N s;subst b;obtain⟨aF,aJ,v,W⟩:=PE.head D;have aS:u.cell? (O7 ax 0)=some (O5 aF):=by
   rw[t 0 s];simp[v]
  obtain⟨u1,P,r,ay,F⟩:=W.opens;obtain⟨aY,_,_,aI,_⟩:=fZ r;have aO:(0:Int)<(H.length:Int):=O9
  by_cases e:q.kd=15
  ·obtain⟨j,ak,i⟩:=ai q T a e;rw[i] at F;have A:=PE.length _ _ F;have L:0<P.length:=by rw[A];simp
   obtain⟨aj,aU,ah,z⟩:=TG ay L;subst ah;obtain⟨am,aG,C,aC⟩:=PE.head F;have aV:u.cell? (O7 aj 0)=some (O5 am):=by
    rw[z 0 L];simp[C]
   obtain⟨u2,aQ,w,_,_⟩:=aC.opens;obtain⟨aK,aL,_,_,_⟩:=fZ w;have aN:(0:Int)<(P.length:Int):=O9;have X:(q.kd==15)=true:=jL.2 e
   by_cases k:j.kd=18
   ·have ac:(j.kd==18)=true:=jL.2 k
    by_cases b:j.tx=nn
    ·have n:=Y (ahw a i e k b);have ad:(j.tx.toList==[117,115,101,32,115,116,114,105,99,116])=true:=VL (a:=nn) rfl b;clear l p d a m r w t z A i e k b v C;go_enter func161,ntmps161;go_wp2;go_ret;exact⟨rfl,by rw[n.out];exact U.text _,RP.setCell (p:=(O7 aD 1)) HP.out _⟩
    ·have n:=Y (YD (a:=g) (λR S O M f o _ _ c=>by rw[a] at f;cases f;rw[i] at o;cases o;exact b c))
     have ad:(j.tx.toList==[117,115,101,32,115,116,114,105,99,116])=false:=Vt (a:=nn) rfl b;clear l p d a m r w t z A i e k b v C;exact tK
   ·have ac:(j.kd==18)=false:=gG.2 k;have n:=Y (YD (a:=g) (λR S O M f o _ c=>by rw[a] at f;cases f;rw[i] at o;cases o;exact absurd c k))
    clear l p d a m r w t z A i e k v C;exact tK
  ·have X:(q.kd==15)=false:=gG.2 e;have n:=Y (YD (a:=g) (λR S O M f _ c=>by rw[a] at f;cases f;exact absurd c e))
   clear l p d a m r t e v;exact tK
section
variable {a:gy} {d:Pe} {c b:Nat} (h:QC a d c b)
include a d c b h
def QC.drew:QC a d.drew c b:=h.fH RP.drew
def QC.alloc (e:Obj):QC a (d.alloc e) c b:=h.fH QJ
end
abbrev Un:Obj:=.cells #[Qn,O3 0,O3 0,O3 0] 275
def lR {i:Pe}{a:Nat}{j m k l:Px}{g:TypeId}{f:Nat × Nat}(h:i.heap[a]? = some (.cells #[j,m,k,l] g f))(b c d e:Px) :
  ((((i.setCell (O7 a 0) b).setCell (O7 a 1) c).setCell (O7 a 2) d).setCell (O7 a 3) e).heap[a]? = some (.cells #[b,c,d,e] g f):=by
 rw[gi (gi (gi (gi h b) c) d) e];rfl
def ph (a:Nat)(b:Pe)(d e f g:Px):Prop:=
 b.cell? (O7 a 0)=some d/\b.cell? (O7 a 1)=some e/\b.cell? (O7 a 2)=some f/\b.cell? (O7 a 3)=some g/\(∀ c,b.frozen? (O7 a c)=false)/\a<b.heap.size
def je {b:Nat}{g:Pe}{c d e f:Px}(a:g.heap[b]? = some (.cells #[c,d,e,f] 275)):ph b g c d e f:=
 ⟨by rw[cell_of a];rfl,by rw[cell_of a];rfl,by rw[cell_of a];rfl,by rw[cell_of a];rfl,TB a,fI a⟩
section
variable {d:gy} {a b:Pe} {f e:Nat} (h:QC d a f e)
include d a b f e h
def aCt (c:Below (a.alloc Un).drew.heap.size (a.alloc Un).drew b) :
  QC d b f e/\Pn a b/\b.heap[a.heap.size]? = some Un:=
 ⟨(h.alloc Un).drew.fH c,((RP.alloc Qp Un).drew).trans (c.mono P7),(c.block _ P7).trans (Ph a Un)⟩
def aCi (c:Below ((a.alloc Un).alloc Un).drew.heap.size ((a.alloc Un).alloc Un).drew b) :
  QC d b f e/\Pn a b/\b.heap[a.heap.size]? = some Un/\b.heap[a.heap.size+1]? = some Un:=by
 refine⟨((h.alloc Un).alloc Un).drew.fH c,(((RP.alloc Qp Un).alloc P7 Un).drew).trans (c.mono RQ),(c.block _ RQ).trans ((gd (a.alloc Un) Un a.heap.size P7).trans (Ph a Un)),?_⟩;have:=Ph (a.alloc Un) Un;simp only[World.size_alloc] at this;exact(c.block _ P7).trans this
end
section
variable {i:gy} {a g f:Pe} {k j:Nat} {b c d e:Px} (h:QC i g k j)
include i a g f k j b c d e h
def wD (q:i.lo<=a.heap.size)(o:g.heap[a.heap.size]? = some Un)(p:g.heap[a.heap.size+1]? = some Un)(n:Pn a g)(m:f=(((g.setCell (O7 (a.heap.size+1) 0) b).setCell (O7 (a.heap.size+1) 1) c).setCell (O7 (a.heap.size+1) 2) d).setCell (O7 (a.heap.size+1) 3) e) :
  QC i f k j/\Pn a f/\ph a.heap.size f (Qn) (O3 0) (O3 0) (O3 0)/\ph (a.heap.size+1) f b c d e:=by
 have l:Below (a.heap.size+1) g f:=by
  rw[m];exact((((f2 _ g).setCell (p:=(O7 (a.heap.size+1) 0)) Qp b).setCell (p:=(O7 (a.heap.size+1) 1)) Qp c).setCell (p:=(O7 (a.heap.size+1) 2)) Qp d).setCell (p:=(O7 (a.heap.size+1) 3)) Qp e
 refine⟨h.ap l O9,n.trans (l.mono O9),je ((l.block _ O9).trans o),je ?_⟩;rw[m];exact lR p b c d e
def Aj (m:g.heap[a.heap.size]? = some Un)(l:Pn a g)(n:f=g.alloc (.cells #[b,c,d,e] 275)) :
  QC i f k j/\Pn a f/\ph a.heap.size f (Qn) (O3 0) (O3 0) (O3 0)/\ph g.heap.size f b c d e:=by
 subst n;exact⟨h.alloc _,l.alloc l.size _,je ((gd _ _ _ (fI m)).trans m),je (Ph _ _)⟩
end
def Ht {b c:Pe}{a:Nat}(d:Pn b c)(h:b.heap.size<=a)(e f g i:Px) :
  Pn b ((((c.setCell (O7 a 0) e).setCell (O7 a 1) f).setCell (O7 a 2) g).setCell (O7 a 3) i):=
 (((d.setCell (p:=(O7 a 0)) h _).setCell (p:=(O7 a 1)) h _).setCell (p:=(O7 a 2)) h _).setCell (p:=(O7 a 3)) h _
def apQ (e:gy)(j:Int)(g:Py)(w:Pe)(n c:Nat)(h:QC e w n c)(ay:g=fx e.l n)(bA:kW g=none) :
  Pq 312 #[Qi e,O3 j] w λi m=>i=PK (.tuple #[n5,Pv false])/\Pn w m:=by
 have z:=h;have q:=(h.alloc Un).drew;have M:=((h.alloc Un).alloc Un).drew;have aG:Hid (∀ a:Pe,QC e a n c->(Instr.lookup 229 (.map (some e.mS)) (Pj g) true).run prog a=.ok (.tuple #[.agg #[Qn,O3 0,O3 0,O3 0],Pv false]) a):=λa l=>by
  have:=YB e g a l.base.gJ;rw[bA] at this;exact this
 have b{G}(h:G:=by
 refine wpAnyH_ready (rs:=[5,10]) Qs P7 (AllReadyH.cons rfl (λK k=>?_) (AllReadyH.cons rfl (λK k=>?_) AllReadyH.nil))
 ·have b{G}(h:G:=by
  have b{G}(h:G:=by
  refine rg ?_;refine Ye 11 λK k=>?_;go_simp;obtain⟨am,f⟩:=xE (r.alloc (.cells #[Qn,O3 0,O3 0,O3 0] 275));obtain⟨t,s,⟨bn,bm,bj,bo,aD,aF⟩,⟨ap,N,s2,au,ax,aC⟩⟩:=Aj (b:=Qn) (c:=O3 0) (d:=O3 0) (e:=O3 0) d p.out o f;exact EQ):=O6 h;exact DK):=O6 h;go_simp;exact yG
 ·have B{G}(h:G:=by
  have b{G}(h:G:=by
  refine Ye 11 λK k=>?_;go_simp;clear T O U ac ad ah;obtain⟨am,f⟩:=xE ((((r.setCell (O7 (w.heap.size+1) 0) (Qn)).setCell (O7 (w.heap.size+1) 1) (O3 0)).setCell (O7 (w.heap.size+1) 2) (O3 0)).setCell (O7 (w.heap.size+1) 3) (O3 0));obtain⟨t,s,⟨bn,bm,bj,bo,aD,aF⟩,⟨ap,N,s2,au,ax,aC⟩⟩:=wD (b:=Qn) (c:=O3 0) (d:=O3 0) (e:=O3 0) d z.base.size p.out E.out o f;exact EQ):=O6 h;exact DK):=O6 h;go_simp;exact I4):=O6 h;exact wG
section
variable (e:gy) (j:Int) (g:Py) (x:Sg) (w:Pe) (n c:Nat) (h:QC e w n c) (ay:g=fx e.l n) (bA:kW g=some x)
include e j g x w n c h ay bA
def N2 (aI:(x.parts==j)=false) :
  Pq 312 #[Qi e,O3 j] w λi m=>i=PK (.tuple #[n5,Pv false])/\Pn w m:=by
 have b{G}(h:G:=by
 have b{G}(h:G:=by
 refine wpAnyH_ready (rs:=[5,10]) Qs P7 (AllReadyH.cons rfl (λK k=>?_) (AllReadyH.cons rfl (λK k=>?_) AllReadyH.nil))
 ·have b{G}(h:G:=by
  have b{G}(h:G:=by
  refine rg ?_;refine Ye 11 λK k=>?_;go_simp;obtain⟨N,f⟩:=xE (r.alloc (.cells #[Pj x.tx,O3 x.kd,O3 x.parts,O3 x.str] 275));obtain⟨t,s,⟨bn,bm,bj,bo,aD,aF⟩,⟨ap,am,s2,au,ax,aC⟩⟩:=Aj (b:=Pj x.tx) (c:=O3 x.kd) (d:=O3 x.parts) (e:=O3 x.str) d p.out o f;exact HS):=O6 h;exact Iu):=O6 h;go_simp;exact yG
 ·have b{G}(h:G:=by
  obtain⟨t,s,⟨bn,bm,bj,bo,aD,aF⟩,⟨ap,am,s2,au,ax,aC⟩⟩:=wD (b:=Pj x.tx) (c:=O3 x.kd) (d:=O3 x.parts) (e:=O3 x.str) d z.base.size p.out E.out o f;exact HS):=O6 h;exact EN):=O6 h;exact wG):=O6 h;exact Ld
def apR (aI:(x.parts==j)=true) :
  Pq 312 #[Qi e,O3 j] w λi m=>i=PK (.tuple #[jG x,Pv true])/\Pn w m:=by
 have b{G}(h:G:=by
 have b{G}(h:G:=by
 refine wpAnyH_ready (rs:=[5,10]) Qs P7 (AllReadyH.cons rfl (λK k=>?_) (AllReadyH.cons rfl (λK k=>?_) AllReadyH.nil))
 ·have b{G}(h:G:=by
  have b{G}(h:G:=by
  refine rg ?_;refine Ye 11 λK k=>?_;go_simp;obtain⟨N,f⟩:=xE (r.alloc (.cells #[Pj x.tx,O3 x.kd,O3 x.parts,O3 x.str] 275));obtain⟨t,s,⟨bn,bm,bj,bo,aD,aF⟩,⟨ap,am,s2,au,ax,aC⟩⟩:=Aj (b:=Pj x.tx) (c:=O3 x.kd) (d:=O3 x.parts) (e:=O3 x.str) d p.out o f;exact Ix):=O6 h;exact Iu):=O6 h;go_simp;exact yG
 ·have b{G}(h:G:=by
  obtain⟨t,s,⟨bn,bm,bj,bo,aD,aF⟩,⟨ap,am,s2,au,ax,aC⟩⟩:=wD (b:=Pj x.tx) (c:=O3 x.kd) (d:=O3 x.parts) (e:=O3 x.str) d z.base.size p.out E.out o f;exact Ix):=O6 h;exact EN):=O6 h;exact wG):=O6 h;exact Ld
end
def Xt (a:gy)(c:Int)(e:Pe)(b g:Nat)(h:QC a e b g) :
  Pq 312 #[Qi a,O3 c] e λj i=>j=PK (.tuple #[ml (iu c (fx a.l b)),Pv (iu c (fx a.l b)).isSome])/\Pn e i:=by
 cases d:kW (fx a.l b) with
 | none=>
  have:iu c (fx a.l b)=none:=by simp[iu,d]
  rw[this];exact apQ a c _ e b g h rfl d
 | some x=>
  cases f:x.parts==c with
  | false=>
   have:iu c (fx a.l b)=none:=by simp[iu,d,Option.filter,f]
   rw[this];exact N2 a c _ x e b g h rfl d f
  | true=>
   have:iu c (fx a.l b)=some x:=by simp[iu,d,Option.filter,f]
   rw[this];exact apR a c _ x e b g h rfl d f
structure FC (c:gy)(F:Um):Prop where
 st:hs c 160 NV F.st
 vl:hs c 224 NV F.vl
 pr:∀ b:Int,2<=b->b<=8->∀ w d i r,F.pr b d i=r->r≠.out->QC c w i d->Pq 280 #[Qi c,O3 b] w (QT c w d (NV w.heap.size) r)
 sg:hs c 311 NV F.sg
def Re:WM 160:=λ_ _=>by kernel_rfl
def aKN:WM 224:=λ_ _=>by kernel_rfl
def OG:WM 311:=λ_ _=>by kernel_rfl
section
variable {a:gy} {d:Um} (f:FC a d) (c:Pe) (b e:Nat) (h:QC a c e b)
include a d f c b e h
def WA (g:Qw a.l d.vl b e≠.out):Pq 159 #[Qi a,VK a.R 224] c (QT a c b (NV c.heap.size) (Qw a.l d.vl b e)):=
 z7 a 224 d.vl f.vl aKN c b e _ rfl g h
def oS (g:Qw a.l d.st b e≠.out):Pq 159 #[Qi a,VK a.R 160] c (QT a c b (NV c.heap.size) (Qw a.l d.st b e)):=
 z7 a 160 d.st f.st Re c b e _ rfl g h
def S0 (g:Qw a.l d.sg b e≠.out):Pq 159 #[Qi a,VK a.R 311] c (QT a c b (NV c.heap.size) (Qw a.l d.sg b e)):=
 z7 a 311 d.sg f.sg OG c b e _ rfl g h
end
def gb {α β:Type}(x:α)(b:Nat)(a:α->Nat->PR β):(PR.ok x b).bind a=a x b:=rfl
def QK {α β:Type}(a:Int)(b:Nat)(c:α->Nat->PR β):(PR.f0 a b:PR α).bind c=.f0 a b:=rfl
def zd {α β:Type}(a:α->Nat->PR β):(PR.out:PR α).bind a=.out:=rfl
abbrev gp (a:Nat):Nat->Prop:=λb=>a<=b
def TP {a:gy}{b:Nat}{c d:Pe}{f:Tr}{e:Nat}(h:Qa (gp b) c f e)(i:Ap a.R c.heap.size c d)(g:a.R<b):Qa (gp b) d f e:=
 Qa.fH (Vh.Xe i g λ_ h=>h) _ _ h
def Ub {b a:Nat}{e:Pe}{d:Tr}{c:Nat}(h:Qa (gp b) e d c)(f:a<=b):Qa (gp a) e d c:=Qa.mono (λ_ h _=>f9 f h) _ _ h
def yz {f:gy}{b:Nat}{a d:Pe}{j k:Tr}{g i:Nat}(h:Qa (gp b) a j g)(n:Ap f.R a.heap.size a d)(o:f.R<b)(m:b<=a.heap.size)(l:Qa (gp a.heap.size) d k i):PE (gp b) d [j,k] [g,i]:=
 PE.pair (M:=a.heap.size) (Qa.fH (I:=λe=>gp b e/\e<a.heap.size) (Vh.Xe n o λ_ h=>h.1) _ _ (Qa.mono (λ_ c e=>⟨c,e⟩) _ _ h)) (Qa.mono (λ_ c _=>⟨f9 m c,c⟩) _ _ l)
section
variable {b:gy} {w a:Pe} {j i:Nat} {k:List Tr}
include b w a j i k
def made {l:List Nat}(r:QC b a j i)(e:Ap b.R w.heap.size w a)(q:PE (gp w.heap.size) a k l)(s:l.length<=maxLen)(d:Array Px)(o:d.toList=l.map O5)(c:Nat)(t:l.length=c)(f:Int)(g:Py)(m:Nat)(p:m=a.heap.size+1) :
  EV w.heap.size ((a.alloc (.cells d 22)).alloc (Qc f g 0 (.slice (some (O7 a.heap.size 0)) c c))) (.mk f g 0 k) (O5 m) /\
  QC b ((a.alloc (.cells d 22)).alloc (Qc f g 0 (.slice (some (O7 a.heap.size 0)) c c))) j i /\
  Ap b.R w.heap.size w ((a.alloc (.cells d 22)).alloc (Qc f g 0 (.slice (some (O7 a.heap.size 0)) c c))):=by
 subst t;have n:m=(a.alloc (.cells d 22)).heap.size:=by rw[p];simp
 rw[n];exact⟨EV.new (KV.row q e.size s d o) (by simp;have:=e.size;omega) f g 0,(r.alloc _).alloc _,(e.alloc e.size _).alloc (by simp;have:=e.size;omega) _⟩
def o5 {e:Px}(n:QC b a j i)(f:Ap b.R w.heap.size w a)(m:KV w.heap.size a k e)(c:Int)(d:Py)(g:Nat)(l:g=a.heap.size) :
  EV w.heap.size (a.alloc (Qc c d 0 e)) (.mk c d 0 k) (O5 g)/\QC b (a.alloc (Qc c d 0 e)) j i/\Ap b.R w.heap.size w (a.alloc (Qc c d 0 e)):=by
 subst l;exact⟨EV.new m f.size c d 0,n.alloc _,f.alloc f.size _⟩
end
def wd {e:gy}{g:Um}(u:FC e g):hs e 155 NV (Vu e.l g):=by
 have O:=RD e.R 224;intro w a n S j s h;have b{G}(h:G:=by
 unfold Vu at j;have i:=Y j;have B:=Y s;clear j s;go_enter func155,ntmps155
 cases X:Qm e.l Rz n with
 | out=>
  exact Tc
 | f0 C D=>
  have d:=Qh e Rz w n a h Pm;exact mi
 | ok M k=>
  have d:=Qh e Rz w n a h Pm;have b{G}(h:G:=by
  have b{G}(h:G:=by
  have z:=c;clear h
  cases X:Qw e.l g.vl a k with
  | out=>
   exact Tc
  | f0 C D=>
   have d:=WA u v a k z (by rw[X];nofun)
   exact rN
  | ok N l=>
   have d:=WA u v a k z (by rw[X];nofun)
   have b{G}(h:G:=by
   intro m E p;obtain⟨⟨T,rfl,F,rfl,H⟩,c,f⟩:=p;have q:=t.next f;have A:=c;have r:=Ub H t.size
   cases X:Qm e.l Tt l with
   | out=>
    exact Tc
   | f0 C D=>
    have d:=Qh e Tt E l a A Pm;exact ry
   | ok W P=>
    have d:=Qh e Tt E l a A Pm;have b{G}(h:G:=by
    intro m L p;obtain⟨⟨U,rfl,rfl⟩,c,f⟩:=p;have I:=q.next f;replace r:=TP r f o.out;go_wp2;go_ret;exact Uz i.out.symm ⟨F,rfl,r⟩ c I):=O6 h;exact YU):=O6 h;exact YU):=O6 h;exact o0):=O6 h;exact YU):=O6 h;exact kM
def hV:(prog.info? 22).map (λa=>(a.zero,a.size,a.bytes))=some (some Ry,1,8):=by kernel_rfl
section
variable {d:Nat} {e:Pe} {c:List Tr} {b:Px} (h:KV d e c b)
include d e c b h
def KV.shape:∃ g i,b=.slice g c.length i:=by
 obtain⟨j,f,a⟩:=h;rw[<-PE.length _ _ a];exact TK f
def KV.own (a:Nat)(g:b.ownBlock=some a):a<e.heap.size/\d<=a:=by
 obtain⟨i,f,_⟩:=h;exact QD f a g
end
def KV.mono {b B':Nat}{e:Pe}{c:List Tr}{d:Px}(h:KV b e c d)(j:B'<=b):KV B' e c d:=by
 obtain⟨i,a,g⟩:=h;refine⟨i,⟨a.1,?_⟩,PE.mono (λf h _=>⟨by omega,h.2⟩) _ _ g⟩;exact Hh
def FB {f:Nat}{e i:Pe}{r o:List Tr}{g:Px}{m j:List Nat}{d n l:Nat}{q:Obj}(s:PE (λa=>f<=a/\g.ownBlock≠some a) e (r++o) (m++j))
  (A:i.ownsRow f 22 1 (.slice (some (O7 d 0)) l n) l ((m++j).map O5)) (u:l=(m++j).length) (v:(e.alloc q).grownBy i g.ownBlock)
  (k:g.ownBlock=some d\/d=e.heap.size+1):KV f i (r++o) (.slice (some (O7 d 0)) l n):=by
 subst u;refine⟨m++j,A,?_⟩;have t:Vh (λa=>f<=a/\a≠d/\g.ownBlock≠some a) e i:=by
  intro a b p;have z:Pn e (e.alloc q):=QJ;rw[<-z.block a p];exact v.block a RQ (λc=>b.2.2 c.symm)
 have w:=PE.mono (J:=λa=>f<=a/\a≠d/\g.ownBlock≠some a) (λa b p=>⟨b.1,λc=>by (rcases k with k|k);(exact b.2 (by rw[k,c]));omega,b.2⟩) _ _ s
 exact PE.mono (λa b _=>⟨b.1,λc=>by simp only[Value.ownBlock,hc] at c;exact b.2.1 c.symm⟩) _ _ (PE.fH t _ _ w)
def pC (a:gy)(c:Pe):Nat:=match c.cell? (O7 a.R 1) with|some (.int _ b)=>b.toNat|_=>0
def VD {a:gy}{c:Pe}{b d:Nat}(h:QC a c b d):pC a c=b:=by unfold pC;rw[h.c1];rfl
def SK (c:Pe)(e H:Nat)(h:c.heap.size=H):∀ b d,[O5 e][b]? = some d->(c.alloc (.cells #[O5 e] 22)).cell? (((O7 H 0):Addr).add b)=some d:=by
 intro b d a
 match b,a with
 | 0,a=>
  simp only[mO,hc] at a;subst a;subst h;rw[show ((O7 c.heap.size 0):Addr).add 0=(O7 c.heap.size 0) from rfl,cell_of (Ph _ _)];rfl
 | b+1,a=>simp at a
def gZ (c:Nat):∀ b ∈ [O5 c],b.oneCell'=true:=by
 intro b a;simp only[gc] at a;subst a;rfl
def xL {m:gy}{b:Nat}{c g:Pe}{i:List Tr}{f:Px}{q:Tr}{p:Nat}(j:KV b c i f)(r:b<=c.heap.size)(l:Ap m.R c.heap.size c g)(n:m.R<b)(t:Qa (gp c.heap.size) g q p) :
  ∃ e,g.ownsRow b 22 1 f e.length (e.map O5)/\PE (λa=>b<=a/\f.ownBlock≠some a) g i e/\PE (λa=>b<=a/\f.ownBlock≠some a) g (i++[q]) (e++[p]):=by
 have w:=j.own;obtain⟨e,k,s⟩:=j;have o:=PE.fH (I:=λa=>(b<=a/\f.ownBlock≠some a)/\a<c.heap.size) (Vh.Xe l n λ_ h=>h.1.1) _ _ (PE.mono (λ_ d u=>⟨d,u⟩) _ _ s);refine⟨e,Rt (a:=λa=>b<=a) (Vh.Xe l n λ_ h=>h) (λu v=>(QD k u v).2) k,PE.mono (λa d _=>d.1) _ _ o,PE.append (M:=c.heap.size) _ _ (PE.cons ?_ PE.nil) o⟩;exact Qa.mono (λa d _=>⟨⟨f9 r d,λu=>by have:=(w a u).1;have:c.heap.size<=a:=d;omega⟩,d⟩) _ _ t
def RV {e:gy}{r:Um}(ak:FC e r)(am:∃ j,jW e.l j r):hs e 149 EV (QO e.l r):=by
 have bm:=RD e.R 160;intro w l P T L aj h;have bj:=h.base.ends;have aL:=Y h.base.len;have b{G}(h:G:=by
 have b{G}(h:G:=by
 have aQ:=Y am;unfold QO at L;have i:=Y L;have B:=Y aj;clear L aj am;go_enter func149,ntmps149
 cases X:Qm e.l TT P with
 | out=>
  exact Tc
 | f0 aO a1=>
  have d:=Qh e TT w P l h Pm;exact mi
 | ok bh aK=>
  have d:=Qh e TT w P l h Pm;have b{G}(h:G:=by
  have b{G}(h:G:=by
  have aJ:=c;clear f h;go_wp2_with fail
  go_loopw [3] (λa wr=>∃ j g k,(RF e.l r l j g k).bind (λU i2=>PR.ok (.mk 6 O8 0 U) i2)=T/\QC e wr k l/\Ap e.R w.heap.size w wr/\KV w.heap.size wr g a/\g.length<=k) (λ_ wr=>e.l.length - pC e wr)
  case atStart=>exact⟨r.fuel,[],aK,i.out,aJ,t,KV.nil _ _,f3 _⟩
  case round=>
   obtain⟨j,g,k,s,c,ai,S,z⟩:=hrel
   cases j with
   | zero=>exact absurd s.symm B.out
   | succ j=>
    have bi:=O4 aL;have aS:=c.lt;have aD:=c;have aU:=c;have aG:=Y z
    by_cases D:fx e.l k=V5
    ·have a:Hid (PR.ok (.mk 6 O8 0 g) (k+1)=T):=by
      unfold RF at s;rw[fL D,gb] at s;exact s
     have d:=TM e V5 wr k l c D Pm;obtain⟨N,H,rfl⟩:=S.shape;clear s z D;go_wp2_with fail;refine cm d ?_;rintro m u ⟨rfl,M,n⟩;have F:=ai.next n;have A:=M;have C:=KV.fH S n o.out;have d:=QA 6 O8 (.slice N g.length H) u ⟨_,_,_,rfl⟩;have b{G}(h:G:=by
     obtain⟨q,E,I⟩:=o5 A F C 6 O8 _ rfl;exact Uz a.out.symm q E I):=O6 h;exact lS
    ·have a:Hid ((Qw e.l r.st l k).bind (λn E=>(RF e.l r l j (g++[n]) E).bind λU i2=>PR.ok (.mk 6 O8 0 U) i2)=T):=by
      unfold RF at s;rw[fK D] at s;rw[<-s]
      cases Qw e.l r.st l k <;> rfl
     have d:=UA e V5 wr k l c D;clear s z D
     cases X:Qw e.l r.st l k with
     | out=>
      exact x7
     | f0 aO a1=>
      have q:=Y X;rw[X] at a;simp only[QK] at a;clear X;have b{G}(h:G:=by
      have d:=oS ak u l k A (by rw[q.out];nofun)
      exact I5):=O6 h;exact q9
     | ok n O=>
      have q:=Y X;rw[X] at a;simp only[gb] at a;clear X;have b{G}(h:G:=by
      have C:=KV.fH S (Ap.of H) o.out;have d:=oS ak u l k A (by rw[q.out];nofun)
      have b{G}(h:G:=by
      have bn:k<O:=by
       obtain⟨M,E⟩:=O4 aQ;exact((Sv (a:=e.l) (b:=l) (E.st (l+1) k aS)).2 n O q.out).1
      have b{G}(h:G:=by
      go_roundw
      case rel=>exact⟨j,g++[n],O,a.out,E,M,aF,by simp;omega⟩
      case measure=>rw[VD E,VD aU];omega):=O6 h;exact F0):=O6 h;exact JL):=O6 h;exact q9):=O6 h;exact o0):=O6 h;exact YU):=O6 h;exact kM):=O6 h;exact qj
def pd (b:gy)(i:Nat)(e:Nat->Bool):Prop:=
 ∀ a f c,QC b a c f->Pq i #[Qi b] a λg d=>g=PK (Pv (e c))/\Pn a d
def LV (c:Nat)(d:Pe)(a:List Tr)(b:Px):Prop:=KV c d a b/\(a=[]->b=.slice none 0 0)/\a.length<=3001
def Zm {e:gy}(ak ah:Nat)(begins:Nat->Bool)(z:Nat->Nat->PR Tr)(C shut:Py)(bV:pd e ak begins)(p:hs e ah NV z)
  (bW:WM ak) (bY:WM ah)
  (a7:C≠O8) (a8:shut≠O8) (bc:∀ a r u g,r<e.l.length->z a r=.ok u g->r<g)
  (j:Nat) (w:Pe) (a r:Nat) (E:PR (List Tr)) (ai:XB e.l C shut begins (z a) j r=E) (aU:E≠.out) (h:QC e w r a) :
  Pq 227 #[Qi e,Pj C,Pj shut,VK e.R ak,VK e.R ah] w (QT e w a (LV w.heap.size) E):=by
 have bA:=Y h.base.len;have b{G}(h:G:=by
 have b{G}(h:G:=by
 have HP:=p;have ba:=Y a7;have bj:=Y a8;have bG:=Y bc;unfold XB at ai;have i:=Y ai;have B:=Y aU;clear ai aU a7 a8 bc;unfold VK;go_enter func227,ntmps227
 cases X:Qm e.l C r with
 | out=>
  exact Tc
 | f0 ay aL=>
  have d:=Y (Qh e C w r a h ba.out);have b{G}(h:G:=by
  refine YL ?_;exact zw):=O6 h;exact oA
 | ok bZ O=>
  have d:=Y (Qh e C w r a h ba.out);have b{G}(h:G:=by
  refine YL ?_;have b{G}(h:G:=by
  have aj:=c;clear f h
  by_cases l:fx e.l O=shut
  ·have d:=Y (TM e shut v O a aj l bj.out);rw[fL l] at i;clear l;go_wp2_with fail;refine YL ?_;rintro m bD ⟨rfl,n,k⟩;have A:=t.next k;have s:=n;go_wp2;go_ret;exact Uz i.out.symm ⟨KV.nil _ _,λ_=>rfl,by simp⟩ s A
  ·have d:=Y (UA e shut v O a aj l);rw[fK l] at i;clear l;go_wp2_with fail;refine YL ?_;rintro m bD ⟨rfl,aS⟩;have A:=t.next (Ap.of aS);have s:=aj.fH aS;go_wp2_with fail
   go_loopw [11] (λk wr=>∃ j n g,Uu e.l shut begins (z a) j n g=E/\QC e wr g a/\Ap e.R w.heap.size w wr/\KV w.heap.size wr n k/\n.length<=g) (λ_ wr=>e.l.length - pC e wr)
   case atStart=>exact⟨j,[],O,i.out,s,A,KV.nil _ _,f3 _⟩
   case round=>
    obtain⟨j,n,g,N,c,bB,P,aJ⟩:=hrel
    cases j with
    | zero=>exact absurd N.symm B.out
    | succ j=>
     have b0:=O4 bA;have bE:=c.lt;have s:=c;have bQ:=c;have A:=bB;have bO:=Y aJ;unfold Uu at N;have D:=Y N;clear N aJ;obtain⟨b2,b1,rfl⟩:=P.shape
     by_cases H:n.length=8
     ·
      cases ad:begins g with
      | true=>
       rw[fL ⟨H,ad⟩] at D;have b{G}(h:G:=by
       have d:=Y (VX e 4 aQ g a (s.fH U));go_wp2_with fail;refine YL ?_;rintro m I ⟨rfl,a1⟩;exact⟨rfl,QV D.out.symm (ac.next (Ap.of a1))⟩):=O6 h;exact IU
      | false=>
       rw[fK (by rw[ad];rintro⟨_,F⟩;cases F)] at D
       have b{G}(h:G:=by
       have a1:=s.fH U;have a6:=KV.fH P (Ap.of U) o.out;clear bz;have b{G}(h:G:=by
       cases X:z a g with
       | out=>
        exact z8
       | f0 ay aL=>
        have d:Hid _:=HP aQ a g _ rfl (by rw[X];nofun) a1
        have b{G}(h:G:=by
        exact⟨rfl,QV k.out.symm (ac.next f)⟩):=O6 h;exact yU
       | ok u q=>
        have d:Hid _:=HP aQ a g _ rfl (by rw[X];nofun) a1
        have b{G}(h:G:=by
        have aO:=ac.next f;have bm:=c;have bv:=Y (xL a6 ac.size f o.out be);have bC:=KV.fH a6 f o.out;exact FZ):=O6 h;exact Gb):=O6 h;exact A0):=O6 h;exact IU
     ·rw[fK (λF=>H F.1)] at D;have bz:((n.length:Int)==8)=false:=gG.2 O9;clear H;have b{G}(h:G:=by
      cases X:z a g with
      | out=>
       exact z8
      | f0 ay aL=>
       have d:Hid _:=HP wr a g _ rfl (by rw[X];nofun) s
       have b{G}(h:G:=by
       exact⟨rfl,QV k.out.symm (A.next f)⟩):=O6 h;exact yU
      | ok u q=>
       have d:Hid _:=HP wr a g _ rfl (by rw[X];nofun) s
       have b{G}(h:G:=by
       have aO:=A.next f;have bm:=c;have bv:=Y (xL P A.size f o.out be);have bC:=KV.fH P f o.out;exact FZ):=O6 h;exact Gb):=O6 h;exact A0):=O6 h;exact o0):=O6 h;exact oL):=O6 h;exact kM):=O6 h;exact qj
def pf (b:Um):Prop:=∀ c d a e,b.st c d=.ok a e->a.kd=15->∃ g f,a.fJ=g::f
def Ly {f:List Tk}{b:Nat->Nat->PR Tr}{a c d:Nat}{e:Tr}(h:Qw f b a c=.ok e d):b (a+1) c=.ok e d:=by
 unfold Qw at h
 split at h
 ·
  cases h
 ·exact h
section
variable {d:List Tk} {a:Um} (n:pf a)
include d a n
def afc {o:Nat}:∀ i f g j k,(∀ c ∈ f,c.kd=15->∃ m l,c.fJ=m::l)->RF d a o i f g=.ok j k->∀ c ∈ j,c.kd=15->∃ m l,c.fJ=m::l:=by
 intro i
 induction i with
 | zero=>intro f g j k _ h;cases h
 | succ i q=>
  intro f g j k p h;unfold RF at h
  split at h
  ·
   cases h;exact p
  ·
   cases e:Qw d a.st o g with
   | out=>rw[e] at h;cases h
   | f0 b r=>rw[e] at h;cases h
   | ok c s=>
    rw[e,gb] at h;refine q _ _ _ _ (λr b=>?_) h
    rcases gU.1 b with b|b
    ·exact p r b
    ·rw[gc] at b;subst b;exact n _ _ _ _ (Ly e)
def XQ {f g p:Nat}{i:Tr}(h:QO d a f g=.ok i p):LZ i:=by
 unfold QO at h
 cases c:Qm d TT g with
 | out=>rw[c] at h;cases h
 | f0 o r=>rw[c] at h;cases h
 | ok x m=>
  rw[c,gb] at h
  cases b:RF d a f a.fuel [] m with
  | out=>rw[b] at h;cases h
  | f0 o r=>rw[b] at h;cases h
  | ok t u=>
   rw[b,gb] at h;cases h;intro e s j q;have k:t=e::s:=j;exact afc n _ _ _ _ _ (λ_ l=>absurd l P7) b e (by rw[k];simp) q
end
def su:WM 228:=λ_ _=>by kernel_rfl
def EI:WM 281:=λ_ _=>by kernel_rfl
def Hz:WM 229:=λ_ _=>by kernel_rfl
def tZ (a:gy):pd a 228 (gS a.l):=λd b c h=>x6 a d c b h
section
variable {a:gy}
include a
def axI {j:Um}(s:FC a j):hs a 349 NV (oz a.l j):=by
 have A:=RD a.R 224;intro e l n B k o h;have R:=Ap.refl a.R e.heap.size e;unfold oz at k;have i:=Y k;have u:=Y o;clear k o;go_enter func349,ntmps349
 cases c:Qw a.l j.vl l n with
 | out=>
  rw[c] at i;exact absurd i.out.symm u.out
 | f0 b g=>
  have d:=WA s e l n h (by rw[c];nofun)
  rw[c] at d i;clear c;go_wp2_with fail;refine cm d ?_;exact zw
 | ok w z=>
  have d:=WA s e l n h (by rw[c];nofun)
  rw[c] at d i;clear c;go_wp2_with fail;refine cm d ?_;have b{G}(h:G:=by
  have v:=R.next f;have t:=Ub F R.size;clear h;go_wp2;go_ret;exact Uz i.out.symm ⟨r,rfl,t⟩ g v):=O6 h;exact nP
def KC:hs a 281 NV (λ_=>VU a.l):=by
 intro g n j u e k h;have R:=Ap.refl a.R g.heap.size g
 dsimp only at e
 unfold VU at e;have i:=Y e;have B:=Y k;clear e k;go_enter func281,ntmps281
 cases X:gC a.l j with
 | out=>
  exact Tc
 | f0 c l=>
  have d:=gH a g j n h;exact mi
 | ok l s=>
  have d:=gH a g j n h;have b{G}(h:G:=by
  have b{G}(h:G:=by
  clear h;have d:=QA 23 l Q8 v ⟨_,_,_,rfl⟩;have b{G}(h:G:=by
  obtain⟨o,q,r⟩:=o5 c t (KV.nil _ _) 23 l _ rfl;exact Uz i.out.symm o.nv q r):=O6 h;exact lS):=O6 h;exact o0):=O6 h;exact YU
def AK {j:Um}(u:FC a j):hs a 229 NV (XZ a.l j):=by
 have S:=RD a.R 224;intro g e r U k s h;have R:=Ap.refl a.R g.heap.size g;unfold XZ at k;have i:=Y k;have B:=Y s;clear k s;go_enter func229,ntmps229
 cases X:gC a.l r with
 | out=>
  exact Tc
 | f0 D E=>
  have d:=gH a g r e h;exact mi
 | ok w n=>
  have d:=gH a g r e h;have b{G}(h:G:=by
  have b{G}(h:G:=by
  have z:=c;clear h
  cases X:Qm a.l rB n with
  | out=>
   exact Tc
  | f0 D E=>
   have d:=Qh a rB v n e z Pm;exact rN
  | ok P o=>
   have d:=Qh a rB v n e z Pm;have b{G}(h:G:=by
   intro m F p;obtain⟨⟨W,rfl,rfl⟩,c,f⟩:=p;have q:=t.next f;have A:=c
   cases X:Qw a.l j.vl e o with
   | out=>
    exact Tc
   | f0 D E=>
    have d:=WA u F e o A (by rw[X];nofun)
    exact ry
   | ok ad T=>
    have d:=WA u F e o A (by rw[X];nofun)
    have b{G}(h:G:=by
    intro m l p;obtain⟨⟨ac,rfl,C,rfl,O⟩,c,f⟩:=p;have M:=q.next f;have N:=Ub O q.size;have d:=QA 39 w (.slice (some (O7 l.heap.size 0)) 1 1) (l.alloc (.cells #[O5 C] 22)) ⟨_,_,_,rfl⟩;have b{G}(h:G:=by
    obtain⟨H,I,L⟩:=made c M (PE.cons N PE.nil) (by simp[maxLen]) #[O5 C] rfl 1 rfl 39 w (l.heap.size+1) rfl;exact Uz i.out.symm H.nv I L):=O6 h;exact lS):=O6 h;exact YU):=O6 h;exact YU):=O6 h;exact o0):=O6 h;exact YU
def Ko (e:Ends a.l)(g b:Nat)(d:Tr)(c:Nat)(f:b<a.l.length)(h:(λ(_:Nat)=>VU a.l) g b=.ok d c):b<c:=((J7 (g:=True) e f).2 d c h).1
def Gg {d:Um}{k:Nat}(j:jW a.l k d)(f:Ends a.l)(i b:Nat)(e:Tr)(c:Nat)(g:b<a.l.length)(h:XZ a.l d i b=.ok e c):b<c:=((C5 (g:=False) f j g (λh=>h.elim)).2 e c h).1
def MT {d:Um}{j:Nat}(i:jW a.l j d)(g b:Nat)(e:Tr)(c:Nat)(f:b<a.l.length)(h:oz a.l d g b=.ok e c):b<c:=((zo (g:=False) i f (λh=>h.elim)).2 e c h).1
def ami {c:Um}:hs a 226 NV (λ_=>Ug a.l c):=by
 have E:=RD a.R 228;have C:=RD a.R 281;intro g l j H e k h;have o:=h.base.ends;have R:=Ap.refl a.R g.heap.size g
 dsimp only at e
 unfold Ug at e;have i:=Y e;have B:=Y k;clear e k;go_enter func226,ntmps226
 cases X:XB a.l Rz Tt (gS a.l) (VU a.l) c.fuel j with
 | out=>
  exact Tc
 | f0 n q=>
  have d:=Zm 228 281 (gS a.l) (λ_=>VU a.l) Rz Tt (tZ a) KC su EI Pm Pm (Ko o) c.fuel g l j _ rfl (by rw[X];nofun) h
  exact mi
 | ok q D=>
  have d:=Zm 228 281 (gS a.l) (λ_=>VU a.l) Rz Tt (tZ a) KC su EI Pm Pm (Ko o) c.fuel g l j _ rfl (by rw[X];nofun) h
  have b{G}(h:G:=by
  have b{G}(h:G:=by
  have d:=QA 40 O8 (.slice w q.length u) z ⟨_,_,_,rfl⟩;have b{G}(h:G:=by
  obtain⟨r,s,A⟩:=o5 t v n 40 O8 _ rfl;exact Uz i.out.symm r.nv s A):=O6 h;exact lS):=O6 h;exact IW):=O6 h;exact YU
def amj {c:Um}(q:FC a c)(e:∃ s,jW a.l s c):hs a 156 NV (WU a.l c):=by
 have L:=RD a.R 228;have H:=RD a.R 229;obtain⟨s,e⟩:=e;intro g k l M j o h;have r:=h.base.ends;have R:=Ap.refl a.R g.heap.size g;unfold WU at j;have i:=Y j;have B:=Y o;clear j o;go_enter func156,ntmps156
 cases X:XB a.l TT V5 (gS a.l) (XZ a.l c k) c.fuel l with
 | out=>
  exact Tc
 | f0 n t=>
  have d:=Zm 228 229 (gS a.l) (XZ a.l c) TT V5 (tZ a) (AK q) su Hz Pm Pm (Gg e r) c.fuel g k l _ rfl (by rw[X];nofun) h
  exact mi
 | ok A I=>
  have d:=Zm 228 229 (gS a.l) (XZ a.l c) TT V5 (tZ a) (AK q) su Hz Pm Pm (Gg e r) c.fuel g k l _ rfl (by rw[X];nofun) h
  have b{G}(h:G:=by
  have b{G}(h:G:=by
  have d:=QA 38 O8 (.slice w A.length u) z ⟨_,_,_,rfl⟩;have b{G}(h:G:=by
  obtain⟨C,D,E⟩:=o5 t v n 38 O8 _ rfl;exact Uz i.out.symm C.nv D E):=O6 h;exact lS):=O6 h;exact IW):=O6 h;exact YU
def lP:hs a 150 NV (λ_ e=>(Qm a.l Q9 e).bind λ_ b=>.ok (.mk 16 O8 0 []) b):=by
 intro g l e u j k h;have R:=Ap.refl a.R g.heap.size g
 dsimp only at j
 have i:=Y j;have B:=Y k;clear j k;go_enter func150,ntmps150
 cases X:Qm a.l Q9 e with
 | out=>
  exact Tc
 | f0 c n=>
  have d:=Qh a Q9 g e l h Pm;exact mi
 | ok r s=>
  have d:=Qh a Q9 g e l h Pm;have b{G}(h:G:=by
  have b{G}(h:G:=by
  clear h;have d:=QA 16 O8 Q8 v ⟨_,_,_,rfl⟩;have b{G}(h:G:=by
  obtain⟨n,o,q⟩:=o5 c t (KV.nil _ _) 16 O8 _ rfl;exact Uz i.out.symm n.nv o q):=O6 h;exact lS):=O6 h;exact o0):=O6 h;exact YU
end
structure Open (B:Nat)(w:Pe)(t:Tr)(p:Nat)(u:Px)(ps:List Nat):Prop where
 low:B<=p
 gw:w.heap[p]? = some (Qc t.kd t.tx t.n u)
 row:w.ownsRow B 22 1 u ps.length (ps.map O5)
 own:u.ownBlock≠some p
 fJ:PE (λb=>B<=b/\b≠p/\u.ownBlock≠some b) w t.fJ ps
def EV.opens {d:Nat}{g:Pe}{e:Tr}{f:Px}(h:EV d g e f):∃ a c b,f=O5 a/\Open d g e a c b:=by
 obtain⟨a,c,b,rfl,m,i,k,j,l⟩:=h;exact⟨a,c,b,rfl,m,i,k,j,l⟩
def Open.ev {b:Nat}{f:Pe}{d:Tr}{a:Nat}{e:Px}{c:List Nat}(h:Open b f d a e c):EV b f d (O5 a):=⟨a,e,c,rfl,h.low,h.gw,h.row,h.own,h.fJ⟩
def Open.fH {e:gy}{a:Nat}{w w':Pe}{g:Tr}{c:Nat}{i:Px}{f:List Nat}(h:Open a w g c i f)(b:Ap e.R w.heap.size w w')(d:e.R<a):Open a w' g c i f:=
 ⟨h.low,by rw[b.block c (fI h.gw) (by have:=h.low;omega)];exact h.gw,Rt (a:=λj=>a<=j) (Vh.Xe b d λ_ h=>h) (λj k=>(QD h.row j k).2) h.row,h.own,PE.fH (Vh.Xe b d λ_ h=>h.1) _ _ h.fJ⟩
section
variable {d:Nat} {a:Pe} {c:Tr} {p:Nat} {b:Px} {e:List Nat} (h:Open d a c p b e)
include d a c p b e h
def Open.cell:a.cell? (O7 p 3)=some b/\(∀ f,a.frozen? (O7 p f)=false)/\p<a.heap.size:=
 ⟨(fZ h.gw).2.2.2.1,(fZ h.gw).2.2.2.2,fI h.gw⟩
def Open.shape:∃ f g,b=.slice f c.fJ.length g:=by
 rw[<-PE.length _ _ h.fJ];exact TK h.row
end
def Open.apart {i:gy}{c:Nat}{b g:Pe}{m:Tr}{e:Nat}{f:Px}{l:List Nat}(h:Open c b m e f l)(t:c<=b.heap.size)(n:Ap i.R b.heap.size b g)(p:i.R<c){k:List Tr}{j:List Nat}(o:PE (gp b.heap.size) g k j) :
  PE (λa=>c<=a/\a≠e/\f.ownBlock≠some a) g (m.fJ++k) (l++j):=
 PE.append (M:=b.heap.size) _ _ (PE.mono (λa d _=>by
  have r:b.heap.size<=a:=d;have s:=fI h.gw;exact⟨⟨by omega,by omega,λq=>by have:=(QD h.row a q).1;omega⟩,r⟩) _ _ o)
  (PE.fH (I:=λa=>(c<=a/\a≠e/\f.ownBlock≠some a)/\a<b.heap.size) (Vh.Xe n p λ_ h=>h.1.1) _ _ (PE.mono (λ_ d q=>⟨d,q⟩) _ _ h.fJ))
def wQ {l:Nat}{m f:Pe}{p q:Int}{r:Py}{A v:List Tr}{k j:List Nat}{c e o n:Nat}{i:Px}(E:l<=c)(b:m.heap[c]? = some (Qc p r q i))(t:i.ownBlock≠some c)
  (B:PE (λa=>l<=a/\a≠c/\i.ownBlock≠some a) m (A++v) (k++j))
  (L:f.ownsRow l 22 1 (.slice (some (O7 e 0)) o n) o ((k++j).map O5)) (D:o=(k++j).length) (u:m.grownBy f i.ownBlock) (g:i.ownBlock=some e\/e=m.heap.size) :
  EV l (f.setCell (O7 c 3) (.slice (some (O7 e 0)) o n)) (.mk p r q (A++v)) (O5 c):=by
 subst D;have C:=fI b;have s:e≠c:=by
  rcases g with g|g
  ·exact λd=>t (by rw[g,d])
  ·omega
 have H:f.heap[c]? = some (Qc p r q i):=by rw[u.block c C (λd=>t d.symm)];exact b
 have z:∀ a,a≠c->(f.setCell (O7 c 3) (.slice (some (O7 e 0)) (k++j).length n)).heap[a]? = f.heap[a]?:=λa b=>g1 f (O7 c 3) _ a b;refine⟨c,.slice (some (O7 e 0)) (k++j).length n,k++j,rfl,E,by rw[gi H];rfl,?_,λd=>s (by simpa[Value.ownBlock] using d),?_⟩
 ·exact Rt (a:=λa=>a=e) (λa b _=>z a (by rw[b];exact s)) (λF w=>by simpa[Value.ownBlock] using w.symm) L
 ·have I:=PE.mono (J:=λa=>l<=a/\a≠c/\a≠e/\i.ownBlock≠some a) (λa b w=>⟨b.1,b.2.1,λd=>by (rcases g with g|g);(exact b.2.2 (by rw[g,d]));omega,b.2.2⟩) _ _ B
  have F:Vh (λa=>l<=a/\a≠c/\a≠e/\i.ownBlock≠some a) m (f.setCell (O7 c 3) (.slice (some (O7 e 0)) (k++j).length n)):=by
   intro a b w;rw[z a b.2.1];exact u.block a w (λd=>b.2.2.2 d.symm)
  exact PE.mono (λa b _=>⟨b.1,b.2.1,λd=>by simp only[Value.ownBlock,hc] at d;exact b.2.2.1 d.symm⟩) _ _ (PE.fH F _ _ I)
def ZW {l:gy}{c b e:Pe}{v t:Nat}{a x:Tr}{d i g m:Nat}{j:Px}{q:List Nat}(f:Open c.heap.size b a d j q)(A:PE (λk=>c.heap.size<=k/\k≠d/\j.ownBlock≠some k) b (a.fJ++[x]) (q++[i]))(C:QC l b v t)(p:Ap l.R c.heap.size c b)(L:l.lo<=c.heap.size)
  (H:e.ownsRow c.heap.size 22 1 (.slice (some (O7 g 0)) (a.fJ.length+1) m) (a.fJ.length+1) (q.map O5++[O5 i])) (s:(b.alloc (.cells #[O5 i] 22)).grownBy e j.ownBlock) (n:j.ownBlock=some g\/g=b.heap.size+1) :
  EV c.heap.size (e.setCell (O7 d 3) (.slice (some (O7 g 0)) (a.fJ.length+1) m)) (.mk a.kd a.tx a.n (a.fJ++[x])) (O5 d) /\
  QC l (e.setCell (O7 d 3) (.slice (some (O7 g 0)) (a.fJ.length+1) m)) v t /\
  Ap l.R c.heap.size c (e.setCell (O7 d 3) (.slice (some (O7 g 0)) (a.fJ.length+1) m)):=by
 have F:=PE.length _ _ f.fJ;have B:∀ r,Vh r b (b.alloc (.cells #[O5 i] 22)):=λr k _ E=>gd b _ k E;have z:(b.alloc (.cells #[O5 i] 22)).heap[d]? = some (Qc a.kd a.tx a.n j):=by rw[gd b _ d (fI f.gw)];exact f.gw
 have I:∀ o,j.ownBlock=some o->c.heap.size<=o:=λo w=>(QD f.row o w).2;have D:Below c.heap.size b e:=((f2 c.heap.size b).alloc p.size _).grown s (by simp;have:=p.size;omega) I
 have u:Below c.heap.size b (e.setCell (O7 d 3) (.slice (some (O7 g 0)) (a.fJ.length+1) m)):=D.setCell (p:=(O7 d 3)) f.low _;refine⟨?_,C.ap u L,p.trans (Ap.of u)⟩;refine wQ (m:=b.alloc (.cells #[O5 i] 22)) f.low z f.own (PE.fH (B _) _ _ A) (by rw[gM];exact H) (by simp[F]) s ?_
 rcases n with n|n
 ·exact fM n
 ·exact fU (by simp[n])
