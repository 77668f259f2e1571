import Derived.Test.YticfnaiehdpbmaaGreatDoorWa3
import Derived.Test.YticfnaiehdpbmaaGreatDoorWa4
import Derived.Lib.SliceRun
import Derived.OwnWalk
set_option maxRecDepth 100000
set_option maxHeartbeats 0
set_option linter.all false
namespace Go.Proofs.YticfnaiehdpbmaaGreatDoor
open Go.RowKit Go.Proofs.Tryz
def f0 {α β:Type}{b:PR α}{c:α->Nat->PR β}{y:β}{d:Nat}(h:b.bind c=.ok y d):∃x a,b=.ok x a/\c x a=.ok y d:=by
 cases b with
 |ok x a=>exact⟨x,a,rfl,h⟩
 |ga e f=>cases h
 |out=>cases h
def f9 (b:Int)(d:PS)(c:Int)(a:List Tr):(Tr.mk b d c a).count=1+Tr.f5 a:=by rw[Tr.count]
def P8:Tr.f5 []=0:=by rw[Tr.f5]
def PW (b:Tr)(a:List Tr):Tr.f5 (b::a)=b.count+Tr.f5 a:=by rw[Tr.f5]
def Vm:∀(b a:List Tr),Tr.f5 (b++a)=Tr.f5 b+Tr.f5 a
 |[],a=>by rw[hy,P8,h3]
 |c::b,a=>by rw[hR,PW,PW,Vm b a,jt]
def H5 (a:Tr):(VT a).count=a.count:=by
 unfold VT
 split
 ·rw[f9,f9]
 ·rfl
section
variable {a:List Tk}
def TM {d:PS}{b c:Nat}{x:Unit}(h:Qx a d b=.ok x c):c=b+1:=by
 unfold Qx at h
 split at h
 ·
  cases h;rfl
 ·
  cases h
def YE {d:PS}{b c:Nat}(h:gK a b=.ok d c):c=b+1:=by
 unfold gK at h
 split at h
 ·
  cases h;rfl
 ·
  cases h
def Cb (d:Nat)(e:PR Tr):Prop:=∀c b,e=.ok c b->c.count+3 * d<=3 * b
def VF {d:Nat->Nat->PR Tr}{c b:Nat}(h:Cb b (d (c+1) b)):Cb b (QJ a d c b):=by
 unfold QJ
 split
 ·intro g f e;cases e
 ·exact h
def Sq {shut:PS}{begins:Nat->Bool}{part:Nat->PR Tr}(k:∀b,Cb b (part b)):∀e c b f d,UD a shut begins part e c b=.ok f d->Tr.f5 f+3 * b<=Tr.f5 c+3 * d:=by
 intro e
 induction e with
 |zero=>intro c b f d h;cases h
 |succ e l=>
  intro c b f d h;unfold UD at h
  split at h
  ·
   cases h
  ·obtain⟨n,i,m,h⟩:=f0 h;have:=k b n i m
   split at h
   ·
    cases h;rw[Vm,PW,P8];omega
   ·obtain⟨_,i2,g,h⟩:=f0 h;have o:=TM g;have j:=l _ _ _ _ h;rw[Vm,PW,P8] at j;omega
def w3 {i shut:PS}{begins:Nat->Bool}{part:Nat->PR Tr}(e:∀b,Cb b (part b)){g b c:Nat}{d:List Tr}(h:XR a i shut begins part g b=.ok d c):Tr.f5 d+3 * b+3<=3 * c:=by
 unfold XR at h;obtain⟨_,k,f,h⟩:=f0 h;have j:=TM f
 split at h
 ·
  cases h;rw[P8];omega
 ·have:=Sq e _ _ _ _ _ h;rw[P8] at this;omega
structure Gi (F:Ut):Prop where
 st:∀d i,Cb i (F.st d i)
 vl:∀d i,Cb i (F.vl d i)
 pr:∀b d i,Cb i (F.pr b d i)
 sg:∀d i,Cb i (F.sg d i)
variable {e:Ut}(b:Gi e)
include b
def afN {k:Nat}:∀g c d i f,RZ a e k g c d=.ok i f->Tr.f5 i+3 * d+3<=Tr.f5 c+3 * f:=by
 intro g
 induction g with
 |zero=>intro c d i f h;cases h
 |succ g j=>
  intro c d i f h;unfold RZ at h;exact F7
def Zg {j c d:Nat}{f:Tr}(h:Rk a e j c=.ok f d):f.count+3 * c+5<=3 * d:=by
 unfold Rk at h;obtain⟨_,l,k,h⟩:=f0 h;obtain⟨m,i2,g,h⟩:=f0 h;cases h;have n:=TM k;have i:=afN b _ _ _ _ _ g;rw[P8] at i;rw[f9];omega
omit b in
theorem apa (c:Nat):Cb c (V5 a c):=by
 intro i g h;unfold V5 at h;obtain⟨_,f,d,h⟩:=f0 h;cases h;have:=YE d;rw[f9,P8];omega
omit b in
theorem MR {c d:Nat}{f:Tr}(h:Uu a e c=.ok f d):f.count+3 * c+2<=3 * d:=by
 unfold Uu at h;obtain⟨j,i,g,h⟩:=f0 h;cases h;have:=w3 apa g;rw[f9];omega
section
variable (d c:Nat)
include d c
def axz:Cb c (oN a e d c):=VF (b.vl _ _)
def MI:Cb c (Yj a e d c):=by
 intro q p h;unfold Yj at h;obtain⟨_,k,i,h⟩:=f0 h;obtain⟨_,i2,f,h⟩:=f0 h;obtain⟨j,o,g,h⟩:=f0 h;cases h;have l:=YE i;have m:=TM f;have n:=VF (a:=a) (b.vl _ _) j _ g;rw[f9,PW,P8];omega
def vF:Cb c (VA a e d c):=by
 intro p o h;unfold VA at h;obtain⟨_,j,i,h⟩:=f0 h;obtain⟨q,i2,f,h⟩:=f0 h;obtain⟨_,n,g,h⟩:=f0 h;cases h;have k:=TM i;have l:=VF (a:=a) (b.vl _ _) _ _ f;have m:=TM g;omega
def K5:Cb c (Xb a e d c):=by
 intro k j h;unfold Xb at h;obtain⟨i,g,f,h⟩:=f0 h;cases h;have:=w3 (MI b d) f;rw[f9];omega
end
def vG {k:Int}{l:PS}{i c d:Nat}{f:Tr}(h:TU a e k l i c=.ok f d):f.count+3 * c<=3 * d:=by
 unfold TU at h;obtain⟨q,m,j,h⟩:=f0 h;obtain⟨o,i2,g,h⟩:=f0 h;cases h;have n:=MR j;have p:=Zg b g;rw[f9,PW,PW,P8,H5];omega
def OQ (f c:Nat):Cb c (Xc a e f c):=by
 intro m l h;unfold Xc at h;obtain⟨_,i,g,h⟩:=f0 h;have j:=TM g
 split at h
 ·obtain⟨_,i2,d,h⟩:=f0 h;have k:=YE d;have:=vG b h;omega
 ·have:=vG b h;omega
def atE (f c:Nat):Cb c (n3 a e f c):=by
 intro m l h;unfold n3 at h;obtain⟨_,i,g,h⟩:=f0 h;obtain⟨_,i2,d,h⟩:=f0 h;have j:=TM g;have k:=YE d;have:=vG b h;omega
def KN (d c:Nat):Cb c (VD a e d c):=by
 unfold VD
 split
 ·exact vF b d c
 ·exact K5 b d c
 ·exact OQ b d c
 ·split
  ·intro g f h;cases h;rw[f9,P8];omega
  ·split
   ·intro g f h;cases h;rw[f9,P8];omega
   ·split
    ·intro g f h;cases h;rw[f9,P8];omega
    ·split
     ·intro g f h;cases h;rw[f9,P8];omega
     ·intro g f h;cases h
def W2 {m:Nat}:∀f i c g d,TV a e m f i c=.ok g d->g.count+3 * c<=i.count+3 * d:=by
 intro f
 induction f with
 |zero=>intro i c g d h;cases h
 |succ f l=>
  intro i c g d h;unfold TV at h
  split at h
  ·obtain⟨p,n,k,h⟩:=f0 h;have o:=YE k;have j:=l _ _ _ _ h;rw[f9,PW,P8] at j;omega
  ·split at h
   ·obtain⟨p,n,k,h⟩:=f0 h;have o:=w3 (axz b m) k;have j:=l _ _ _ _ h;rw[f9,PW] at j;omega
   ·
    cases h;omega
def KU (d c:Nat):Cb c (VE a e d c):=by
 intro m l h;unfold VE at h;obtain⟨i,f,g,h⟩:=f0 h;have j:=KN b d c i f g;have k:=W2 b _ _ _ _ _ h;omega
def amZ (d c:Nat):Cb c (UQ a e d c):=by
 unfold UQ
 split
 ·intro k j h;obtain⟨g,i,f,h⟩:=f0 h;cases h;have:=VF (a:=a) (b.sg _ _) g _ f;rw[f9,PW,P8];omega
 ·exact KU b d c
def Mc {k:Int}{n:Nat}:∀f i c g d,U2 a e k n f i c=.ok g d->g.count+3 * c<=i.count+3 * d:=by
 intro f
 induction f with
 |zero=>intro i c g d h;cases h
 |succ f l=>
  intro i c g d h;unfold U2 at h
  split at h
  ·
   cases h;omega
  ·split at h
   ·
    cases h;omega
   ·obtain⟨p,j,o,h⟩:=f0 h;have q:=b.pr _ _ _ p j o;have m:=l _ _ _ _ h;rw[f9,PW,PW,P8] at m;omega
def atF (f:Int)(g c:Nat):Cb c (Yk a e f g c):=by
 intro n m h;unfold Yk at h;obtain⟨j,d,i,h⟩:=f0 h;have k:=b.sg _ _ j d i;have l:=Mc b _ _ _ _ _ h;omega
def apd (i c:Nat):Cb c (V6 a e i c):=by
 intro o n h;unfold V6 at h;obtain⟨k,f,j,h⟩:=f0 h;have g:=b.pr _ _ _ k f j
 split at h
 ·split at h
  ·obtain⟨l,i2,d,h⟩:=f0 h;cases h;have m:=VF (a:=a) (b.vl _ _) l _ d;rw[f9,PW,PW,P8];omega
  ·
   cases h
 ·
  cases h;exact g
def atG (l C q:Nat):Cb q (nN a e l C q):=by
 intro D z h;unfold nN at h
 split at h
 ·unfold oA at h;obtain⟨n,g,f,h⟩:=f0 h;have o:=YE f
  split at h
  ·
   cases h
  ·split at h
   ·obtain⟨i,i2,c,h⟩:=f0 h;obtain⟨_,j,d,h⟩:=f0 h;cases h;have k:=VF (a:=a) (b.vl _ _) i _ c;have m:=TM d;rw[f9,PW,P8];omega
   ·obtain⟨_,j,d,h⟩:=f0 h;cases h;have m:=TM d;rw[f9,P8];omega
 ·exact atE b l q D z h
 ·have:=Zg b h;omega
 ·obtain⟨_,j,d,h⟩:=f0 h;cases h;have m:=TM d;rw[f9,P8];omega
 ·unfold Xd at h;obtain⟨i,g,f,h⟩:=f0 h;obtain⟨n,i2,c,h⟩:=f0 h;have o:=vF b l _ i g f;have k:=VF (a:=a) (b.st _ _) n _ c
  split at h
  ·obtain⟨s2,j,d,h⟩:=f0 h;cases h;have m:=VF (a:=a) (b.st _ _) s2 _ d;rw[f9,PW,PW,PW,P8];omega
  ·
   cases h;rw[f9,PW,PW,P8];omega
 ·unfold UR at h;obtain⟨i,g,f,h⟩:=f0 h;obtain⟨n,i2,c,h⟩:=f0 h;cases h;have o:=vF b l _ i g f;have k:=VF (a:=a) (b.st _ _) n _ c;rw[f9,PW,PW,P8];omega
 ·unfold XT at h
  split at h
  ·exact I4
  ·obtain⟨_,i2,c,h⟩:=f0 h;cases h;have k:=TM c;rw[f9,P8];omega
 ·unfold Wx at h;obtain⟨_,L,w,h⟩:=f0 h;obtain⟨F,g,f,h⟩:=f0 h;obtain⟨s,i2,c,h⟩:=f0 h;obtain⟨v,j,d,h⟩:=f0 h;have E:=TM w;have o:=Zg b f;have k:Tr.f5 s+3 * g<=3 * i2:=by
   unfold qd at c
   split at c
   ·obtain⟨_,M,r,c⟩:=f0 c;obtain⟨_,H,t,c⟩:=f0 c;obtain⟨_,I,u,c⟩:=f0 c;obtain⟨B,A,p,c⟩:=f0 c;cases c;have:=TM r;have:=YE t;have:=TM u;have:=Zg b p;rw[PW,f9,PW,P8];omega
   ·
    cases c;rw[P8];omega
  have m:Tr.f5 v+3 * i2<=3 * j:=by
   unfold Xt at d
   split at d
   ·obtain⟨B,A,p,d⟩:=f0 d;cases d;have:=Zg b p;rw[PW,f9,PW,P8];omega
   ·
    cases d;rw[P8];omega
  split at h
  ·
   cases h
  ·
   cases h;rw[f9,PW,Vm];omega
def afQ (j d:Nat):Cb d (Si a e j d):=by
 unfold Si
 split
 ·exact atG b j _ d
 ·intro m l h;unfold nB at h;exact I4
omit b in
theorem axA:∀d,Gi (ig a d):=by
 intro d
 induction d with
 |zero=>exact⟨λ_ _ _ _ h=>by (cases h),λ_ _ _ _ h=>by (cases h),λ_ _ _ _ _ h=>by (cases h),λ_ _ _ _ h=>by (cases h)⟩
 |succ d c=>exact⟨afQ c,apd c,atF c,amZ c⟩
def WD:∀g c d i f,SQ a e g c d=.ok i f->Tr.f5 i+3 * d<=Tr.f5 c+3 * f:=by
 intro g
 induction g with
 |zero=>intro c d i f h;cases h
 |succ g j=>
  intro c d i f h;unfold SQ at h;exact F7
def LX {d:Tr}{c:Nat}(h:Wy a e=.ok d c):d.count<=1+3 * c:=by
 unfold Wy at h;obtain⟨i,g,f,h⟩:=f0 h;cases h;have:=WD b _ _ _ _ _ f;rw[P8] at this;rw[H5,f9];omega
end
namespace Hp
section
variable {H:Nat}{R:List PO}{w k:Py}{c:Mo}{z o:PO}{C B:List PO}{K:Nat}
def axL {a:Nat}{x:Ro}(l:c.PL[a]?=some x){d:PS}{b:Nat}{e:Ce}(f:fC d x.cs=some b)(p:x.cs[b]?=some e):c.Y2 a d=some e:=JK
def W3 {g:Nat}{x:Ob}(l:c.objs[g]?=some x){a:PS}{i:Nat}{d:Pr}(b:fP a x.ps=some i)(j:x.ps[i]?=some d):c.gQ g a=some d:=by
 rcases Wq (λd=>ZO a d.name) x.ps with ⟨f,e⟩|⟨n,p,f,e,m,_⟩
 ·rw[show fP a x.ps=none from f] at b;cases b
 ·rw[show fP a x.ps=some n from f] at b;cases b;rw[j] at e;cases e;simp[Mo.gQ,axK l,m]
section
variable (h:HP H R w c z o C B)(au:c.Small K)(n:K<=1000000000)(i:Int)(j:PS)(a:Va)
include h au n i j a
def W0 (e:c.has i j=false) :
  PN 267 #[PZ H 0,Ph i,PI j,.agg #[Ph a.k,Ph a.n,PI a.s]] w λd f=>d=PY (.iface 34 (Ph 7))/\PG w f:=by
 have g:PG w (w.alloc (vO a)):=QK;have b:=ZE (h.fQ g) au n i j;rw[e] at b;unfold vO at b;clear e;go_enter func267,ntmps267;go_wp2_with fail;refine cm b ?_;exact DE
def TX (ap:c.Y2 i j=none)(D:Nat)(x:Ob)(U:c.SX i=D)(X:c.objs[D]?=some x)(M:Nat)(N:Pr)(O:fP j x.ps=some M)(q:x.ps[M]?=some N) :
  PN 267 #[PZ H 0,Ph i,PI j,.agg #[Ph a.k,Ph a.n,PI a.s]] w λd t=>d=PY RI/\HP H R t (c.Ux D ⟨x.code,x.ps.set M ⟨N.name,a,N.fixed⟩⟩) z o C B/\Qv Th H w t:=by
 have b{G}(h:G:=by
 have A:=ZE (h.fQ s) au n i j;rw[show c.has i j=true by simp[Mo.has,U,W3 X O q]] at A;have aJ:Hid (∀k,PG w k->PN 125 #[PZ H 0,Ph i] k λd t=>d=PY (Ph D)/\t=k):=λk f=>by rw[<-U];exact y5 (h.fQ f) i
 have aH:Hid (∀k,PG w k->_):=λk f=>Be (h.fQ f) au n D x X j a false M N O q;have aE:Hid (∀k,PG w k->_):=λk f=>ZY (h.fQ f) au n i j;have a6:=Y u;have aW:=Y ap;have aR:=h;unfold vO at A;clear h ap U X O q b0 aO;have b{G}(h:G:=by
 obtain⟨aT,aU,_,_,_⟩:=(aR.fQ e).c;have aK:a8=none:=by
  rcases T with ⟨h,_⟩|⟨_,_,_,_,_,_,_,_,_,_,q,_⟩
  ·exact h
  ·rw[aW.out] at q;cases q
 subst aK;obtain⟨ak,ae,ah,ay,a1⟩:=ZP (f.mono Qh);have aL:Hid (∀g,PG k g->Below (w.heap.size+1) (w.alloc (.cells #[Ph a.k,Ph a.n,PI a.s] 65)) g):=λg p=>(f.mono Qh).trans (p.mono Pv);have aY:Hid (∀g,PG k g->g.heap[w.heap.size]?=some (Qb #[Ph a.k,Ph a.n,PI a.s] 65)):=λg p=>((f.mono Qh).trans (p.mono (Nat.succ_le_of_lt a1)) |>.block _ (kj _)).trans (hH w _);have bh:=gH u e.size;clear T ak ae ah ay;go_wp2_with fail;refine cm E ?_;rintro d t ⟨rfl,rfl⟩
 go_wp2_with fail;refine cm F ?_;rintro d g ⟨rfl,p⟩;have ad:=e.trans (p.mono e.size);obtain⟨ak,ae,ah,ay,bi⟩:=ZP (aL.out g p);have ax:g.heap[w.heap.size]?=some (Qb #[Ph a.k,Ph a.n,PI a.s] 65):=aY.out g p;have a7:=Y ax;clear aT aU ax;go_wp2_with fail;refine wp_region_held (S:=λW=>W.cell? (Pn w.heap.size 0)=some (Ph a.k)/\W.cell? (Pn w.heap.size 1)=some (Ph a.n)/\W.cell? (Pn w.heap.size 2)=some (PI a.s)) Qz ?_;change wpAnyH _ _ _ _ _ _ _ _ (World.drew _)
 have r:Hid (g.drew.cell? (Pn w.heap.size 0)=some (Ph a.k)/\g.drew.cell? (Pn w.heap.size 1)=some (Ph a.n)/\g.drew.cell? (Pn w.heap.size 2)=some (PI a.s)):=⟨ak,ae,ah⟩;refine wh 0 (PZ H 0) r.out ?_;refine wh 1 (PZ H 0) r.out ?_;refine wh 2 (Ph i) r.out ?_;refine wh 4 (PI j) r.out ?_;refine wg 5 (.agg #[Ph a.k,Ph a.n,PI a.s]) rfl (fU ⟨by kernel_rfl,λW aI=>by obtain⟨be,bf,bb⟩:=aI;go_simp⟩) r.out ?_
 refine Yd 3 λK n=>?_;go_simp;refine cm (aJ.out _ ad.drew) ?_;rintro d ba ⟨rfl,rfl⟩;refine n.out _ _ r.out (λ_=>?_);clear n K;refine Yd 6 λK n=>?_;go_simp;refine cm (aH.out _ ad.drew) ?_;rintro d af ⟨rfl,aX,al⟩;have aQ:=(Qv.of ad.drew (Qe a6.out)).trans al;have aD:Hid (af.cell? (Pn w.heap.size 0)=some (Ph a.k)/\af.cell? (Pn w.heap.size 1)=some (Ph a.n)/\af.cell? (Pn w.heap.size 2)=some (PI a.s)):=by
  have aI:=al.rest _ _ 65 a7.out PK;refine⟨?_,?_,?_⟩ <;> simp[World.cell?,aI]
 refine n.out _ _ aD.out (λ_=>?_);clear n K al;refine wh 7 RI aD.out ?_;refine wpAnyH_done Qz ?_ _;go_simp;go_wp2;go_ret;exact⟨rfl,aX,aQ⟩):=Pq h;exact GS):=Pq h;exact pF
end
section
variable (h:HP H R w c z o C B)(ad:c.Small K)(X:K<=1000000000)(g:Nat)(x:Ro)(D:c.PL[g]?=some x)(l:PS)(a:Va)(M:Nat)(i:Ce)(r:fC l x.cs=some M)(v:x.cs[M]?=some i)
include h ad X g x D l a M i r v
def ahU (T:i.ready=false) :
  PN 267 #[PZ H 0,Ph (g:Int),PI l,.agg #[Ph a.k,Ph a.n,PI a.s]] w λd ae=>d=PY (.iface 34 (Ph 6))/\PG w ae:=by
 have U{G}(h:G:=by
 rcases T with ⟨_,p⟩|⟨aJ,aM,a7,aZ,aI,aT,ax,ak,al,ap,p,rfl,ah,af⟩
 ·rw[N.out] at p;cases p
 obtain rfl:g=aJ:=Pv;rw[j.out] at ak;cases ak;rw[I.out] at al;cases al;rw[q.out] at ap;cases ap;have aH:=Y af;have t:k.heap[w.heap.size]?=some (Qb #[Ph a.k,Ph a.n,PI a.s] 65):=(f.block _ Qh).trans (hH w _);obtain⟨bf,au⟩:=rx (h.fQ e) j.out ah;have bh:aI≠w.heap.size:=Sj au t PK;have aD:Hid (∀m,PG k m->Below (w.heap.size+1) (w.alloc (.cells #[Ph a.k,Ph a.n,PI a.s] 65)) m):=λm n=>(f.mono Qh).trans (n.mono (by have:=gM t;omega))
 have aY:=gH u e.size;clear p af ah t au ax;go_wp2_with fail;refine cm E ?_;rintro d ae ⟨rfl,rfl⟩;go_wp2_with fail;refine cm F ?_;rintro d m ⟨rfl,n⟩;obtain⟨b,aW,ba⟩:=aH.out m n;have aL:=b 1 _ rfl;have a6:=b 2 _ rfl;have bb:=b 3 _ rfl;have be:=b 4 _ rfl;have aK:=b 5 _ rfl;have ay:=e.trans (n.mono e.size);obtain⟨aX,aR,aU,a1,bi⟩:=ZP (aD.out m n);clear P S b;rw[T] at aK;go_wp2;go_ret;exact⟨rfl,ay⟩):=Pq h;exact x4
def ahV (T:i.ready=true)(ax:i.kind=2) :
  PN 267 #[PZ H 0,Ph (g:Int),PI l,.agg #[Ph a.k,Ph a.n,PI a.s]] w λd ae=>d=PY (.iface 34 (Ph 1))/\PG w ae:=by
 have U{G}(h:G:=by
 rcases T with ⟨_,p⟩|⟨aK,aT,bb,a6,aJ,aW,ay,ak,al,ap,p,rfl,ah,af⟩
 ·rw[N.out] at p;cases p
 obtain rfl:g=aK:=Pv;rw[j.out] at ak;cases ak;rw[I.out] at al;cases al;rw[q.out] at ap;cases ap;have aI:=Y af;have t:k.heap[w.heap.size]?=some (Qb #[Ph a.k,Ph a.n,PI a.s] 65):=(f.block _ Qh).trans (hH w _);obtain⟨bh,au⟩:=rx (h.fQ e) j.out ah;have bi:aJ≠w.heap.size:=Sj au t PK;have aH:Hid (∀m,PG k m->Below (w.heap.size+1) (w.alloc (.cells #[Ph a.k,Ph a.n,PI a.s] 65)) m):=λm n=>(f.mono Qh).trans (n.mono (by have:=gM t;omega))
 have a1:=gH u e.size;clear p af ah t au ay;go_wp2_with fail;refine cm E ?_;rintro d ae ⟨rfl,rfl⟩;go_wp2_with fail;refine cm F ?_;rintro d m ⟨rfl,n⟩;obtain⟨b,aY,be⟩:=aI.out m n;have aR:=b 1 _ rfl;have ba:=b 2 _ rfl;have bf:=b 3 _ rfl;have aL:=b 4 _ rfl;have aM:=b 5 _ rfl;have aD:=e.trans (n.mono e.size);obtain⟨aZ,aU,aX,a7,bj⟩:=ZP (aH.out m n);clear P S b;rw[T] at aM;rw[ax] at aL;go_wp2;go_ret;exact⟨rfl,aD⟩):=Pq h;exact x4
def X7 (T:i.ready=true)(ax:i.kind=3) :
  PN 267 #[PZ H 0,Ph (g:Int),PI l,.agg #[Ph a.k,Ph a.n,PI a.s]] w λd ae=>d=PY (.iface 34 (Ph 5))/\PG w ae:=by
 have U{G}(h:G:=by
 rcases T with ⟨_,p⟩|⟨aK,aT,bb,a6,aJ,aW,ay,ak,al,ap,p,rfl,ah,af⟩
 ·rw[N.out] at p;cases p
 obtain rfl:g=aK:=Pv;rw[j.out] at ak;cases ak;rw[I.out] at al;cases al;rw[q.out] at ap;cases ap;have aI:=Y af;have t:k.heap[w.heap.size]?=some (Qb #[Ph a.k,Ph a.n,PI a.s] 65):=(f.block _ Qh).trans (hH w _);obtain⟨bh,au⟩:=rx (h.fQ e) j.out ah;have bi:aJ≠w.heap.size:=Sj au t PK;have aH:Hid (∀m,PG k m->Below (w.heap.size+1) (w.alloc (.cells #[Ph a.k,Ph a.n,PI a.s] 65)) m):=λm n=>(f.mono Qh).trans (n.mono (by have:=gM t;omega))
 have a1:=gH u e.size;clear p af ah t au ay;go_wp2_with fail;refine cm E ?_;rintro d ae ⟨rfl,rfl⟩;go_wp2_with fail;refine cm F ?_;rintro d m ⟨rfl,n⟩;obtain⟨b,aY,be⟩:=aI.out m n;have aR:=b 1 _ rfl;have ba:=b 2 _ rfl;have bf:=b 3 _ rfl;have aL:=b 4 _ rfl;have aM:=b 5 _ rfl;have aD:=e.trans (n.mono e.size);obtain⟨aZ,aU,aX,a7,bj⟩:=ZP (aH.out m n);clear P S b;rw[T] at aM;rw[ax] at aL;go_wp2;go_ret;exact⟨rfl,aD⟩):=Pq h;exact x4
def K0 (T:i.ready=true)(aU:i.kind≠2)(aW:i.kind≠3) :
  PN 267 #[PZ H 0,Ph (g:Int),PI l,.agg #[Ph a.k,Ph a.n,PI a.s]] w λd P=>d=PY RI/\HP H R P (c.TJ g ⟨x.outer,x.gf,x.cs.set M ⟨i.name,a,i.kind,i.ready⟩⟩) z o C B/\Qv Th H w P:=by
 have b{G}(h:G:=by
 have L{G}(h:G:=by
 have aM:=Y u;unfold vO at A;clear v D r O b0 aO;have b{G}(h:G:=by
 obtain⟨aK,aL,_,_,_⟩:=(h.fQ e).c
 rcases T with ⟨_,t⟩|⟨aJ,aT,bf,ba,aI,aY,ax,ah,al,ap,t,rfl,S,ae⟩
 ·rw[N.out] at t;cases t
 obtain rfl:g=aJ:=Pv;rw[j.out] at ah;cases ah;rw[I.out] at al;cases al;rw[q.out] at ap;cases ap;have aH:=Y ae;have ay:=Y S;have U:k.heap[w.heap.size]?=some (Qb #[Ph a.k,Ph a.n,PI a.s] 65):=(f.block _ Qh).trans (hH w _);obtain⟨bm,au⟩:=rx (h.fQ e) j.out S;have bn:aI≠w.heap.size:=Sj au U PK;have aD:Hid (∀n,PG k n->Below (w.heap.size+1) (w.alloc (.cells #[Ph a.k,Ph a.n,PI a.s] 65)) n):=λn p=>(f.mono Qh).trans (p.mono (by have:=gM U;omega))
 have a7:=gH u e.size;clear t ae S U au ax;go_wp2_with fail;refine cm E ?_;rintro d P ⟨rfl,rfl⟩;go_wp2_with fail;refine cm F ?_;rintro d n ⟨rfl,p⟩;obtain⟨m,a1,bh⟩:=aH.out n p;have aR:=m 1 _ rfl;have be:=m 2 _ rfl;have bi:=m 3 _ rfl;have bj:=m 4 _ rfl;have aQ:=m 5 _ rfl;have af:=e.trans (p.mono e.size);obtain⟨a6,aX,aZ,bb,bo⟩:=ZP (aD.out n p);have ak:=Y ((h.fQ af).aJd j.out ay.out q.out a);clear aK aL m;rw[T] at aQ;go_wp2;go_ret
 exact⟨rfl,ak.out.1,(Qv.of af (Qe aM.out)).trans ak.out.2⟩):=Pq h;exact GS):=Pq h;exact Bh):=Pq h;exact pF
end
def r8:(prog.info? 262).map (λa=>(a.zero,a.size,a.bytes))=some (some (.agg #[QB,Ph 0,Ph 0,QB,Ph 0,PD false]),6,64):=by kernel_rfl
def xb (w:Py)(H:Nat)(g:w.heap.size=H)(x:PS)(a:Va)(d:Int)(e:Bool)(b:Nat)(f:PO)(h:([PI x,Ph a.k,Ph a.n,PI a.s,Ph d,PD e]:List PO)[b]?=some f) :
  (w.alloc (.cells #[PI x,Ph a.k,Ph a.n,PI a.s,Ph d,PD e] 262)).cell? (Addr.add (Pn H 0) b)=some f:=by
 subst g
 match b,h with
 |0,h=>simp at h;subst h;simp[Addr.add]
 |1,h=>simp at h;subst h;simp[Addr.add]
 |2,h=>simp at h;subst h;simp[Addr.add]
 |3,h=>simp at h;subst h;simp[Addr.add]
 |4,h=>simp at h;subst h;simp[Addr.add]
 |5,h=>simp at h;subst h;simp[Addr.add]
 |i+6,h=>simp at h
def y1 (x:PS)(a:Va)(e:Int)(f:Bool):∀d ∈ ([PI x,Ph a.k,Ph a.n,PI a.s,Ph e,PD f]:List PO),d.oneCell'=true:=by
 intro d b;simp at b
 rcases b with rfl|rfl|rfl|rfl|rfl|rfl <;> rfl
def HP.tu (h:HP H R w c z o C B){d:Nat}{x a:Ro}(n:c.PL[d]?=some x){g b:PO}(m:B[d]?=some g){f q:Nat}(i:o=.slice (some (Pn f 0)) (c.PL.map Ro.h).length q)(p:w.grownBy k g.ownBlock)(r:k.ownsRow H 262 6 b a.cs.length (a.cs.flatMap Ce.h))(s:∀e,b.ownBlock=some e->g.ownBlock=some e\/w.heap.size<=e)(l:a.outer=x.outer/\a.gf=x.gf) :
  HP H R (k.setCell (Pn f (d * 3+2)) b) (c.TJ d a) z o C (B.set d b)/\Qv Th H w (k.setCell (Pn f (d * 3+2)) b):=by
 have t:(c.PL.map Ro.h)[d]?=some x.h:=by simp[n]
 have j:=h.ro;rw[i] at j;have e:=j.put (Qe (gM h.gG)) t m p r s;rw[<-i] at e;refine h.xI (a:=c.PL.set d a) ?_ e.2;rw[kk];have:=e.1;rw[show a.h=⟨x.h.hd,a.cs.length,a.cs.flatMap Ce.h⟩ by simp[Ro.h,l]];exact this
def apP (h:HP H R w c z o C B)(b:Int)(l:PS)(j:Int)(a:Va)(e:c.ro b=none) :
  PN 128 #[PZ H 0,Ph b,PI l,Ph j,.agg #[Ph a.k,Ph a.n,PI a.s]] w λf d=>f=PY (.iface 34 (Ph 7))/\PG w d:=by
 obtain⟨p,q,m,n,r⟩:=h.c;have g:b<0\/(c.PL.length:Int)<=b:=by
  rcases QC c b with ⟨_,h⟩|⟨s,x,rfl,_,h⟩
  ·exact h
  ·rw[e] at h;cases h
 have i:=YI o _ (RH h.ro.row) b (by simpa using g) (w.alloc (.cells #[Ph a.k,Ph a.n,PI a.s] 65));clear h g e;go_enter func128,ntmps128;go_wp2_with fail;refine cm i ?_;rintro f d ⟨rfl,rfl⟩;go_wp2;go_ret;exact⟨rfl,QK⟩
section
variable (h:HP H R w c z o C B)(au:c.Small K)(d:K<=1000000000)(l:Nat)(x:Ro)(bO:c.PL[l]?=some x)(g:PS)(j:Int)(a:Va)
include h au d l x bO g j a
def apQ (m:x.gf≠-1) :
  PN 128 #[PZ H 0,Ph (l:Int),PI g,Ph j,.agg #[Ph a.k,Ph a.n,PI a.s]] w λf q=>f=PY (.iface 34 (Ph 1))/\PG w q:=by
 have b{G}(h:G:=by
 have a1:=Y (D 2 v rfl);have U:=Y E;have aY:=Y ae;obtain⟨L,F,I,s,A⟩:=g2 r8;have bm{G}(h:G:=by
 go_ret;exact⟨rfl,r⟩):=Pq h;exact FU):=Pq h;exact q8
def O6 (I:x.gf = -1)(i:Nat)(M:Ce)(s:fC g x.cs=some i)(A:x.cs[i]?=some M) :
  PN 128 #[PZ H 0,Ph (l:Int),PI g,Ph j,.agg #[Ph a.k,Ph a.n,PI a.s]] w λm q=>m=PY (.iface 34 (Ph 9))/\PG w q:=by
 have b{G}(h:G:=by
 have P:=X;have O:=Y (D 2 v rfl);have S:=Y E;have N:=Y ae;obtain⟨ay,ah,ap,U,af⟩:=g2 r8;rw[I] at ad;obtain⟨ax,aD,rfl,_,_,_⟩:=od X A;rw[s] at n;simp only[mo] at n;clear s A;obtain⟨F,p⟩:=xH (w.alloc (.cells #[Ph a.k,Ph a.n,PI a.s] 65));have T:e<F.heap.size:=by rw[p.out];exact E
 rw[show w.alloc (vO a)=F by rw[p.out]] at u n ad ak P O S N r;clear D bO h a6 al a7 ae E;go_enter func128,ntmps128;have b{G}(h:G:=by
 have L:=r.trans (f.mono r.size);go_wp2;go_ret;exact⟨rfl,L⟩):=Pq h;exact xN):=Pq h;exact q8
def Ot (af:x.gf = -1)(ah:fC g x.cs=none)(bn:j=1) :
  PN 128 #[PZ H 0,Ph (l:Int),PI g,Ph j,.agg #[Ph a.k,Ph a.n,PI a.s]] w λf q=>f=PY RI/\(∃b,HP H R q (c.TJ l ⟨x.outer,x.gf,x.cs++[⟨g,a,j,false⟩]⟩) z o C b)/\Qv Th H w q:=by
 have b{G}(h:G:=by
 have b{G}(h:G:=by
 subst bn;have b{G}(h:G:=by
 refine wt 7 (Ph 1) ?_;refine wt 8 (PD false) ?_;refine hT 4 6 (λK d=>?ca) λK d=>?cb
 case' ca=>
  go_simp;refine d _ _ ?_;clear d K;refine VP 6 ?_;refine wt 9 (.agg #[PI g,Ph a.k,Ph a.n,PI a.s,Ph 1,PD false]) ?_;refine VP 10 ?_
 case' cb=>
  go_simp;refine d _ _ ?_;clear d K;refine wt 9 (.agg #[PI g,Ph a.k,Ph a.n,PI a.s,Ph 1,PD false]) ?_;refine hT 4 10 (λK d=>?cc) λK d=>?cd
 case' cc=>
  go_simp;refine d _ _ ?_;clear d K;refine VP 10 ?_
 case' cd=>
  go_simp;refine d _ _ ?_;clear d K;refine VP 4 ?_
 all_goals
  refine WB 11 λK d=>?_;refine step_append_lies _ rfl _ _ 196 rfl H 262 aT _ 6 64 lX aO aQ aL aM rfl PK _ _ _ rfl (aK.drew.alloc _) (Pn k.heap.size 0) 1 1 [PI g,Ph a.k,Ph a.n,PI a.s,Ph 1,PD false] rfl rfl (xb _ _ rfl _ _ _ _) (y1 _ _ _ _) PK (by have:=N.out;unfold maxLen;omega) (by have:=N.out;omega) SC (k.heap.size+1) Qh ?_
  intro bz bx ap bv bq bf _;refine d _ _ ?_;clear d K;have ba:k.grownBy ap v.ownBlock:=PX (PX (a:=k.drew) ⟨rfl,rfl,rfl,Qq,λ_ _ _=>rfl⟩ (hS _ _ _)) bq;have a8:=L.tu (a:=⟨x.outer,x.gf,x.cs++[⟨g,a,1,false⟩]⟩) aR.out O.out S.out ba (b:=.slice (some (Pn bz 0)) (x.cs.length+1) bx) (by rw[iT];simpa[Ce.h] using bv) (λbo bh=>by cases bh;exact bf.imp (λf=>f) (λf=>by rw[f];exact gw _)) ⟨rfl,rfl⟩
  have be:=Y a8;have bA:ap.cell? (Pn e (l * 3+2))=some v/\ap.frozen? (Pn e (l * 3+2))=false:=by
   have bo:some e≠v.ownBlock:=λf=>by
    obtain⟨_,_,br⟩:=L.ro.mF O.out;exact(br e f.symm).2.2.1 (by rw[S.out];rfl)
   have bh:=ba.block e aH bo;exact⟨(gN (w:=k) (a:=(Pn e (l * 3+2))) bh).trans F,(hf (w:=k) (a:=(Pn e (l * 3+2))) bh).trans M⟩
  obtain⟨bG,bH⟩:=bA;clear a8 bf F M aI aD aE aJ;refine wt 12 (PZ e (l * 3)) ?_;refine wt 13 (PZ e (l * 3+2)) ?_;refine VP 14 ?_;refine hj Qz ?_ _;go_simp;go_wp2;go_ret;exact⟨rfl,⟨_,be.out.1⟩,(Qv.of ay (Qe aX)).trans be.out.2⟩):=Pq h;exact xA):=Pq h;exact uK):=Pq h;exact q8
def akh (af:x.gf = -1)(ah:fC g x.cs=none)(bn:j=2) :
  PN 128 #[PZ H 0,Ph (l:Int),PI g,Ph j,.agg #[Ph a.k,Ph a.n,PI a.s]] w λf q=>f=PY RI/\(∃b,HP H R q (c.TJ l ⟨x.outer,x.gf,x.cs++[⟨g,a,j,false⟩]⟩) z o C b)/\Qv Th H w q:=by
 have b{G}(h:G:=by
 have b{G}(h:G:=by
 subst bn;have b{G}(h:G:=by
 refine wt 7 (Ph 2) ?_;refine wt 8 (PD false) ?_;refine hT 4 6 (λK d=>?ca) λK d=>?cb
 case' ca=>
  go_simp;refine d _ _ ?_;clear d K;refine VP 6 ?_;refine wt 9 (.agg #[PI g,Ph a.k,Ph a.n,PI a.s,Ph 2,PD false]) ?_;refine VP 10 ?_
 case' cb=>
  go_simp;refine d _ _ ?_;clear d K;refine wt 9 (.agg #[PI g,Ph a.k,Ph a.n,PI a.s,Ph 2,PD false]) ?_;refine hT 4 10 (λK d=>?cc) λK d=>?cd
 case' cc=>
  go_simp;refine d _ _ ?_;clear d K;refine VP 10 ?_
 case' cd=>
  go_simp;refine d _ _ ?_;clear d K;refine VP 4 ?_
 all_goals
  refine WB 11 λK d=>?_;refine step_append_lies _ rfl _ _ 196 rfl H 262 aT _ 6 64 lX aO aQ aL aM rfl PK _ _ _ rfl (aK.drew.alloc _) (Pn k.heap.size 0) 1 1 [PI g,Ph a.k,Ph a.n,PI a.s,Ph 2,PD false] rfl rfl (xb _ _ rfl _ _ _ _) (y1 _ _ _ _) PK (by have:=N.out;unfold maxLen;omega) (by have:=N.out;omega) SC (k.heap.size+1) Qh ?_
  intro bz bx ap bv bq bf _;refine d _ _ ?_;clear d K;have ba:k.grownBy ap v.ownBlock:=PX (PX (a:=k.drew) ⟨rfl,rfl,rfl,Qq,λ_ _ _=>rfl⟩ (hS _ _ _)) bq;have a8:=L.tu (a:=⟨x.outer,x.gf,x.cs++[⟨g,a,2,false⟩]⟩) aR.out O.out S.out ba (b:=.slice (some (Pn bz 0)) (x.cs.length+1) bx) (by rw[iT];simpa[Ce.h] using bv) (λbo bh=>by cases bh;exact bf.imp (λf=>f) (λf=>by rw[f];exact gw _)) ⟨rfl,rfl⟩
  have be:=Y a8;have bA:ap.cell? (Pn e (l * 3+2))=some v/\ap.frozen? (Pn e (l * 3+2))=false:=by
   have bo:some e≠v.ownBlock:=λf=>by
    obtain⟨_,_,br⟩:=L.ro.mF O.out;exact(br e f.symm).2.2.1 (by rw[S.out];rfl)
   have bh:=ba.block e aH bo;exact⟨(gN (w:=k) (a:=(Pn e (l * 3+2))) bh).trans F,(hf (w:=k) (a:=(Pn e (l * 3+2))) bh).trans M⟩
  obtain⟨bG,bH⟩:=bA;clear a8 bf F M aI aD aE aJ;refine wt 12 (PZ e (l * 3)) ?_;refine wt 13 (PZ e (l * 3+2)) ?_;refine VP 14 ?_;refine hj Qz ?_ _;go_simp;go_wp2;go_ret;exact⟨rfl,⟨_,be.out.1⟩,(Qv.of ay (Qe aX)).trans be.out.2⟩):=Pq h;exact xA):=Pq h;exact uK):=Pq h;exact q8
def aki (af:x.gf = -1)(ah:fC g x.cs=none)(bG:j≠1)(bA:j≠2) :
  PN 128 #[PZ H 0,Ph (l:Int),PI g,Ph j,.agg #[Ph a.k,Ph a.n,PI a.s]] w λf q=>f=PY RI/\(∃b,HP H R q (c.TJ l ⟨x.outer,x.gf,x.cs++[⟨g,a,j,true⟩]⟩) z o C b)/\Qv Th H w q:=by
 have b{G}(h:G:=by
 have b{G}(h:G:=by
 have b{G}(h:G:=by
 refine wt 7 (Ph j) ?_;refine wt 8 (PD true) ?_;refine hT 4 6 (λK d=>?ca) λK d=>?cb
 case' ca=>
  go_simp;refine d _ _ ?_;clear d K;refine VP 6 ?_;refine wt 9 (.agg #[PI g,Ph a.k,Ph a.n,PI a.s,Ph j,PD true]) ?_;refine VP 10 ?_
 case' cb=>
  go_simp;refine d _ _ ?_;clear d K;refine wt 9 (.agg #[PI g,Ph a.k,Ph a.n,PI a.s,Ph j,PD true]) ?_;refine hT 4 10 (λK d=>?cc) λK d=>?cd
 case' cc=>
  go_simp;refine d _ _ ?_;clear d K;refine VP 10 ?_
 case' cd=>
  go_simp;refine d _ _ ?_;clear d K;refine VP 4 ?_
 all_goals
  refine WB 11 λK d=>?_;refine step_append_lies _ rfl _ _ 196 rfl H 262 aT _ 6 64 lX aO aQ aL aM rfl PK _ _ _ rfl (aK.drew.alloc _) (Pn k.heap.size 0) 1 1 [PI g,Ph a.k,Ph a.n,PI a.s,Ph j,PD true] rfl rfl (xb _ _ rfl _ _ _ _) (y1 _ _ _ _) PK (by have:=N.out;unfold maxLen;omega) (by have:=N.out;omega) SC (k.heap.size+1) Qh ?_
  intro bx bv ap br bo bf _;refine d _ _ ?_;clear d K;have ba:k.grownBy ap v.ownBlock:=PX (PX (a:=k.drew) ⟨rfl,rfl,rfl,Qq,λ_ _ _=>rfl⟩ (hS _ _ _)) bo;have a8:=L.tu (a:=⟨x.outer,x.gf,x.cs++[⟨g,a,j,true⟩]⟩) aR.out O.out S.out ba (b:=.slice (some (Pn bx 0)) (x.cs.length+1) bv) (by rw[iT];simpa[Ce.h] using br) (λbn bh=>by cases bh;exact bf.imp (λf=>f) (λf=>by rw[f];exact gw _)) ⟨rfl,rfl⟩
  have be:=Y a8;have bz:ap.cell? (Pn e (l * 3+2))=some v/\ap.frozen? (Pn e (l * 3+2))=false:=by
   have bn:some e≠v.ownBlock:=λf=>by
    obtain⟨_,_,bq⟩:=L.ro.mF O.out;exact(bq e f.symm).2.2.1 (by rw[S.out];rfl)
   have bh:=ba.block e aH bn;exact⟨(gN (w:=k) (a:=(Pn e (l * 3+2))) bh).trans F,(hf (w:=k) (a:=(Pn e (l * 3+2))) bh).trans M⟩
  obtain⟨bH,bI⟩:=bz;clear a8 bf F M aI aD aE aJ;refine wt 12 (PZ e (l * 3)) ?_;refine wt 13 (PZ e (l * 3+2)) ?_;refine VP 14 ?_;refine hj Qz ?_ _;go_simp;go_wp2;go_ret;exact⟨rfl,⟨_,be.out.1⟩,(Qv.of ay (Qe aX)).trans be.out.2⟩):=Pq h;exact xA):=Pq h;exact uK):=Pq h;exact q8
end
def AK {w:Py}{g:Nat}{j:TypeId}{size f d e a:Nat}{l:List PO}(h:w.ownsRow g j size (.slice (some (Pn f 0)) d e) d l)(i:a<=d):w.ownsRow g j size (.slice (some (Pn f 0)) a e) a (l.take (a * size)):=by
 have u:=h.1
 rcases h.2 with ⟨b,_⟩|⟨D,A,t,b,n,v,s,q,r,p⟩
 ·simp at b
 ·simp only[g7,he,iO,jU,kO] at b;obtain⟨rfl,rfl⟩:=b;have m:a * size<=d * size:=Nat.mul_le_mul_right _ i;refine⟨by rw[hQ,u];omega,.inr ⟨f,e,t,rfl,n,v,gr i s,q,r,?_⟩⟩
  rw[<-p,lc,lM m]
def Lm {α:Type}(a:List α)(d b:Nat):List α:=(a.eraseIdx d).take b++a.drop b
section
variable {α:Type}{a:List α}
include α a
def Jg {b d:Nat}(e:b<a.length)(f:d<a.length):(Lm a b d).length=a.length:=by
 simp[Lm,jr,e];omega
def Nl {e b d:Nat}(f:e<a.length)(j:b<a.length)(g:b<=d):(Lm a e b)[d]?=a[d]?:=by
 have i:((a.eraseIdx e).take b).length=b:=by simp[jr,f];omega
 rw[Lm,g5 Pv,i,List.getElem?_drop,Nat.add_sub_cancel' g]
def DC {b:Nat}(_hk:b<a.length):Lm a b b=a:=by
 rw[Lm,List.eraseIdx_eq_take_drop_succ,oH SC,lc,Nat.min_self,jm]
def HJ {d b:Nat}{e:α}(l:d<=b)(m:b+1<a.length)(f:a[b+1]?=some e):(Lm a d b).set b e=Lm a d (b+1):=by
 have i:d<a.length:=Pv;have j:((a.eraseIdx d).take b).length=b:=by simp[jr,i];omega
 have g:(a.eraseIdx d)[b]?=some e:=by rw[List.getElem?_eraseIdx,fT Pv];exact f
 rw[Lm,mN _ _ Pv,j,iy,Lm,List.take_add_one,g];rw[hI]
 congr 1
 rw[h7 (i:=b) Pv];rfl
def Ja {d b:Nat}(e:d<a.length)(f:b+1=a.length):(Lm a d b).take b=a.eraseIdx d:=by
 have g:((a.eraseIdx d).take b).length=b:=by simp[jr,e];omega
 rw[Lm,oH Pv,lc,Nat.min_self,iN (by simp[jr,e];omega)]
end
def xc {α:Type}{f:α->List PO}{b:Nat}(g:∀e,(f e).length=b):∀(d:List α)(a:Nat),(d.flatMap f).take (a * b)=(d.take a).flatMap f
 |[],a=>by simp
 |e::d,0=>by simp
 |e::d,a+1=>by
  have h:=xc g d a;rw[hM,show (a+1) * b=(f e).length+a * b by rw[g,iV];omega,List.take_length_add_append,h,jb,hM]
def CM:∀(d:List Pr)(a:Nat)(b:Pr),a<d.length->((((((d.flatMap Pr.h)).set (a * 5) (PI b.name)).set (a * 5+1) (Ph b.v.k)).set (a * 5+2) (Ph b.v.n)).set (a * 5+3) (PI b.v.s)).set (a * 5+4) (PD b.fixed)=(d.set a b).flatMap Pr.h
 |[],a,b,h=>by simp at h
 |f::d,0,b,h=>by simp[Pr.h]
 |f::d,a+1,b,h=>by
  have:=CM d a b (by simpa using h);have e:(a+1) * 5=a * 5+1+1+1+1+1:=Pv;simp only[e,kH,hM,Pr.h,hR,hy] at this ⊢;rw[this]
def IP (d:PS)(a:Pr)(b:Nat)(w:Py)(f:w.cell? (Pn b 0)=some (PI d)) :
  PN 335 #[.agg #[PI a.name,Ph a.v.k,Ph a.v.n,PI a.v.s,PD a.fixed],PZ b 0] w λg e=>g=PY (PD (a.name.toList==d.toList))/\PG w e:=by
 have i:b<w.heap.size:=jR w _ f;go_enter func335,ntmps335;go_wp2;go_ret;exact⟨rfl,QK⟩
def aCr (t D H:Nat)(m:List Pr)(g:PS)(p:Nat)(w:Py)(O:w.ownsRow H 207 5 (.slice (some (Pn t 0)) m.length D) m.length (m.flatMap Pr.h))(ae:m.length<=1000000000)(j:Nat)(A:fP g m=some j)(r:w.cell? (Pn p 0)=some (PI g)) :
  PN 350 #[.slice (some (Pn t 0)) m.length D,.func (.func 335) #[] #[PZ p 0]] w λe N=>e=PY (Ph j)/\PG w N:=by
 have b{G}(h:G:=by
 go_enter func350,ntmps350;go_wp2_with fail
 go_loopw [8] (λv wr=>∃a:Nat,a<=j/\v=Ph a/\PG w wr) (λv _=>j+1 - (intOf v).toNat)
 case atStart=>exact⟨0,ge _,rfl,RV⟩
 case round=>
  obtain⟨a,ax,rfl,i⟩:=hrel;have q:a<m.length:=Pv;obtain⟨f,l⟩:∃f,m[a]?=some f:=⟨_,gq q⟩;obtain⟨ak,ad,L,_,⟨d,af,_⟩,_⟩:=nD (Qs O i) l;have b{G}(h:G:=by
  have ah:wr.cell? (Pn t (a * 5))=some (PI f.name):=d 0 _ rfl;have X:=d 1 _ rfl;have al:=d 2 _ rfl;have ap:=d 3 _ rfl;have au:=d 4 _ rfl;have s:wr.cell? (Pn p 0)=some (PI g):=(gD i (a:=(Pn p 0)) F.out).trans E.out;have n:=IP g f p wr s;exact I5):=Pq h;exact oC):=Pq h;exact Gj
def zP:List PO:=[QB,Ph 0,Ph 0,QB,PD false]
def ahP (w:Py)(b d l:Nat)(i:∀a,a<5->(w.cell? (Pn b (d+a))).isSome=true)(g:∀a,w.frozen? (Pn b a)=false) :
  (Builtin.clear_ #[183] 0 #[.slice (some (Pn b d)) 1 l]).run prog w=.ok (.tuple #[]) (w.setCells b d zP):=by
 have e:=run_storeCells_cells (P:=prog) b d zP 0 w (by simpa[zP] using i) (by simpa using λa _=>g (d+a)) (by intro m f;simp[zP] at f;rcases f with rfl|rfl|rfl|rfl|rfl <;> rfl)
 simp only[jM] at e;have j:∀w,(zeroValue 207).run prog w=.ok (.agg #[QB,Ph 0,Ph 0,QB,PD false]) w:=λw=>by
  obtain⟨r,f,m,p,q⟩:=g2 GN;simp[zeroValue,typeInfo,f,m]
 have n:(Builtin.zeroCells (Value.agg #[QB,Ph 0,Ph 0,QB,PD false]).cells 1).toList=zP:=by kernel_rfl
 simp[Builtin.clear_,hx underlying183,j,n,e]
def Li {w:Py}{b g H e a:Nat}{d:List PO}(h:w.ownsRow H 207 5 (.slice (some (Pn b 0)) e g) e d)(s:a<=e):(w.setCells b (a * 5) zP).ownsRow H 207 5 (.slice (some (Pn b 0)) a g) a (d.take (a * 5))/\w.grownBy (w.setCells b (a * 5) zP) (some b):=by
 obtain⟨m,n⟩:=h.stored (a * 5) (QB);obtain⟨p,l⟩:=m.stored (a * 5+1) (Ph 0);obtain⟨r,q⟩:=p.stored (a * 5+2) (Ph 0);obtain⟨u,t⟩:=r.stored (a * 5+3) (QB);obtain⟨v,A⟩:=u.stored (a * 5+4) (PD false);have i:((((((d).set (a * 5) (QB)).set (a * 5+1) (Ph 0)).set (a * 5+2) (Ph 0)).set (a * 5+3) (QB)).set (a * 5+4) (PD false)).take (a * 5)=d.take (a * 5):=by
  rw[h9 Pv,h9 Pv,h9 Pv,h9 Pv,h9 Pv]
 have j:=PX (PX (PX (PX (n) l) q) t) A;have f:=AK v s;rw[i] at f;exact⟨f,j⟩
def EL:∀(d:List Ce)(a:Nat)(b:Ce),a<d.length->(((((((d.flatMap Ce.h)).set (a * 6) (PI b.name)).set (a * 6+1) (Ph b.v.k)).set (a * 6+2) (Ph b.v.n)).set (a * 6+3) (PI b.v.s)).set (a * 6+4) (Ph b.kind)).set (a * 6+5) (PD b.ready)=(d.set a b).flatMap Ce.h
 |[],a,b,h=>by simp at h
 |f::d,0,b,h=>by simp[Ce.h]
 |f::d,a+1,b,h=>by
  have:=EL d a b (by simpa using h);have e:(a+1) * 6=a * 6+1+1+1+1+1+1:=Pv;simp only[e,kH,hM,Ce.h,hR,hy] at this ⊢;rw[this]
def Gc (d:PS)(a:Ce)(b:Nat)(w:Py)(f:w.cell? (Pn b 0)=some (PI d)) :
  PN 317 #[.agg #[PI a.name,Ph a.v.k,Ph a.v.n,PI a.v.s,Ph a.kind,PD a.ready],PZ b 0] w λg e=>g=PY (PD (a.name.toList==d.toList))/\PG w e:=by
 have i:b<w.heap.size:=jR w _ f;go_enter func317,ntmps317;go_wp2;go_ret;exact⟨rfl,QK⟩
def aCu (t D H:Nat)(m:List Ce)(g:PS)(p:Nat)(w:Py)(O:w.ownsRow H 262 6 (.slice (some (Pn t 0)) m.length D) m.length (m.flatMap Ce.h))(ae:m.length<=1000000000)(j:Nat)(A:fC g m=some j)(r:w.cell? (Pn p 0)=some (PI g)) :
  PN 336 #[.slice (some (Pn t 0)) m.length D,.func (.func 317) #[] #[PZ p 0]] w λe N=>e=PY (Ph j)/\PG w N:=by
 have b{G}(h:G:=by
 go_enter func336,ntmps336;go_wp2_with fail
 go_loopw [8] (λv wr=>∃a:Nat,a<=j/\v=Ph a/\PG w wr) (λv _=>j+1 - (intOf v).toNat)
 case atStart=>exact⟨0,ge _,rfl,RV⟩
 case round=>
  obtain⟨a,ay,rfl,i⟩:=hrel;have q:a<m.length:=Pv;obtain⟨f,l⟩:∃f,m[a]?=some f:=⟨_,gq q⟩;obtain⟨ak,ad,L,_,⟨d,af,_⟩,_⟩:=od (Qs O i) l;have b{G}(h:G:=by
  have ah:wr.cell? (Pn t (a * 6))=some (PI f.name):=d 0 _ rfl;have X:=d 1 _ rfl;have al:=d 2 _ rfl;have ap:=d 3 _ rfl;have au:=d 4 _ rfl;have ax:=d 5 _ rfl;have s:wr.cell? (Pn p 0)=some (PI g):=(gD i (a:=(Pn p 0)) F.out).trans E.out;have n:=Gc g f p wr s;exact I5):=Pq h;exact oC):=Pq h;exact Gj
def zC:List PO:=[QB,Ph 0,Ph 0,QB,Ph 0,PD false]
def ahR (w:Py)(b d l:Nat)(i:∀a,a<6->(w.cell? (Pn b (d+a))).isSome=true)(g:∀a,w.frozen? (Pn b a)=false) :
  (Builtin.clear_ #[196] 0 #[.slice (some (Pn b d)) 1 l]).run prog w=.ok (.tuple #[]) (w.setCells b d zC):=by
 have e:=run_storeCells_cells (P:=prog) b d zC 0 w (by simpa[zC] using i) (by simpa using λa _=>g (d+a)) (by intro m f;simp[zC] at f;rcases f with rfl|rfl|rfl|rfl|rfl|rfl <;> rfl)
 simp only[jM] at e;have j:∀w,(zeroValue 262).run prog w=.ok (.agg #[QB,Ph 0,Ph 0,QB,Ph 0,PD false]) w:=λw=>by
  obtain⟨r,f,m,p,q⟩:=g2 r8;simp[zeroValue,typeInfo,f,m]
 have n:(Builtin.zeroCells (Value.agg #[QB,Ph 0,Ph 0,QB,Ph 0,PD false]).cells 1).toList=zC:=by kernel_rfl
 simp[Builtin.clear_,hx lX,j,n,e]
def Oa {w:Py}{b g H e a:Nat}{d:List PO}(h:w.ownsRow H 262 6 (.slice (some (Pn b 0)) e g) e d)(t:a<=e):(w.setCells b (a * 6) zC).ownsRow H 262 6 (.slice (some (Pn b 0)) a g) a (d.take (a * 6))/\w.grownBy (w.setCells b (a * 6) zC) (some b):=by
 obtain⟨n,p⟩:=h.stored (a * 6) (QB);obtain⟨q,m⟩:=n.stored (a * 6+1) (Ph 0);obtain⟨s,r⟩:=q.stored (a * 6+2) (Ph 0);obtain⟨v,u⟩:=s.stored (a * 6+3) (QB);obtain⟨A,D⟩:=v.stored (a * 6+4) (Ph 0);obtain⟨E,i⟩:=A.stored (a * 6+5) (PD false);have j:(((((((d).set (a * 6) (QB)).set (a * 6+1) (Ph 0)).set (a * 6+2) (Ph 0)).set (a * 6+3) (QB)).set (a * 6+4) (Ph 0)).set (a * 6+5) (PD false)).take (a * 6)=d.take (a * 6):=by
  rw[h9 Pv,h9 Pv,h9 Pv,h9 Pv,h9 Pv,h9 Pv]
 have l:=PX (PX (PX (PX (PX (p) m) r) u) D) i;have f:=AK E t;rw[j] at f;exact⟨f,l⟩
def Ov (e r H:Nat)(g:List Pr)(m:PS)(s:Nat)(w:Py)(P:w.ownsRow H 207 5 (.slice (some (Pn e 0)) g.length r) g.length (g.flatMap Pr.h))(aH:g.length<=1000000000)(i:Nat)(X:fP m g=some i)(al:∀f a,i<f->g[f]?=some a->ZO m a.name=false)(u:w.heap[s]?=some (Qb #[PI m] 9)) :
  PN 334 #[.slice (some (Pn e 0)) g.length r,.func (.func 335) #[] #[PZ s 0]] w λO aD=>O=PY (.slice (some (Pn e 0)) ((g.eraseIdx i).length:Nat) r)/\w.grownBy aD (some e)/\aD.ownsRow H 207 5 (.slice (some (Pn e 0)) (g.eraseIdx i).length r) (g.eraseIdx i).length ((g.eraseIdx i).flatMap Pr.h):=by
 have F:w.cell? (Pn s 0)=some (PI m):=by simp[World.cell?,u]
 have ax:=aCr e r H g m s w P Pv i X F;have b{G}(h:G:=by
 go_enter func334,ntmps334;have b{G}(h:G:=by
 go_loopw [5,6] (λj f wr=>∃d:Nat,i<=d/\d+1<=n/\j=Ph d/\f=Ph ((d+1:Nat):Int)/\w.grownBy wr (some e)/\wr.ownsRow H 207 5 (.slice (some (Pn e 0)) n r) n ((Lm g i d).flatMap Pr.h)) (λ_ f _=>n+1 - (intOf f).toNat)
 case atStart=>exact⟨i,Qq,M,rfl,by go_num,aI,by rw[DC (by rw[<-q.out];exact M)];exact aK⟩
 case round=>
  have b{G}(h:G:=by
  by_cases ae:d+1<n
  ·have b{G}(h:G:=by
   obtain⟨aX,aW,L,_,⟨v,_,au⟩,_⟩:=nD ap ay;have b{G}(h:G:=by
   have af:=aJ.out (d+1) a Pv U;have bL:wr.cell? (Pn e ((d+1) * 5))=some (PI a.name):=v 0 _ rfl;have bx:wr.cell? (Pn e ((d+1) * 5+1))=some (Ph a.v.k):=v 1 _ rfl;have bN:wr.cell? (Pn e ((d+1) * 5+2))=some (Ph a.v.n):=v 2 _ rfl;have bO:wr.cell? (Pn e ((d+1) * 5+3))=some (PI a.v.s):=v 3 _ rfl;have bP:wr.cell? (Pn e ((d+1) * 5+4))=some (PD a.fixed):=v 4 _ rfl;have F:(wr.alloc (.cells #[PI a.name,Ph a.v.k,Ph a.v.n,PI a.v.s,PD a.fixed] 207)).cell? (Pn s 0)=some (PI m):=by
    rw[g9 _ _ _ (gM N)];simp[World.cell?,N]
   have ah:=IP m a s _ F;rw[show (a.name.toList==m.toList)=false from af] at ah;have aY:=Y U;have bo:=Y I;have A:∀f,f<5->∃bq,wr.cell? (Pn e (d * 5+f))=some bq:=λf p=>by
    have:=D.cellAt (d * 5+f) Pv;rw[this];obtain⟨x,j⟩:∃x,(Lm g i d)[d]?=some x:=⟨_,gq Pv⟩;rw[YG (a:=5) (λ_=>rfl) _ d f p,j];exact⟨_,gq (by simpa[Pr.h] using p)⟩
   obtain⟨u0,bj⟩:=A 0 PK;obtain⟨u1,a8⟩:=A 1 PK;obtain⟨u2,bi⟩:=A 2 PK;obtain⟨u3,bv⟩:=A 3 PK;obtain⟨u4,a1⟩:=A 4 PK;have b{G}(h:G:=by
   have ak:Below (wr.heap.size+1) (wr.alloc (.cells #[PI a.name,Ph a.v.k,Ph a.v.n,PI a.v.s,PD a.fixed] 207)) j:=l.mono Qh;have E:j.heap[wr.heap.size]?=some (Qb #[PI a.name,Ph a.v.k,Ph a.v.n,PI a.v.s,PD a.fixed] 207):=(ak.block _ (kj _)).trans (hH wr _);have b{G}(h:G:=by
   have bQ:j.cell? (Pn wr.heap.size 4)=some (PD a.fixed):=by simp[World.cell?,E]
   have t:∀f,j.cell? (Pn e f)=wr.cell? (Pn e f):=λf=>by
    rw[gD ak (a:=(Pn e f)) (by show e<_;omega),g9 _ _ _ aR]
   have bH:∀f,j.frozen? (Pn e f)=false:=λf=>by
    rw[hf (w:=wr.alloc (.cells #[PI a.name,Ph a.v.k,Ph a.v.n,PI a.v.s,PD a.fixed] 207)) (a:=(Pn e f)) (ak.block e Pv),jO _ _ _ (by show e≠_;omega)]
    exact aU.out f
   have bI:j.cell? (Pn e (d * 5))=some u0:=(t _).trans bj;have bS:j.cell? (Pn e (d * 5+1))=some u1:=(t _).trans a8;have bK:j.cell? (Pn e (d * 5+2))=some u2:=(t _).trans bi;have bJ:j.cell? (Pn e (d * 5+3))=some u3:=(t _).trans bv;have bR:j.cell? (Pn e (d * 5+4))=some u4:=(t _).trans a1;have bz:e≠wr.heap.size:=Pv;have bA:e<j.heap.size:=Pv
   have bh:j.ownsRow H 207 5 (.slice (some (Pn e 0)) n r) n ((Lm g i d).flatMap Pr.h):=D.kept (PX (hS _ _ none) ⟨l.os,l.tape,l.output,l.size,λf p _=>l.block f p⟩) (by simp[Value.ownBlock]);obtain⟨a7,ba⟩:=bh.stored (d * 5) (PI a.name);obtain⟨bb,a6⟩:=a7.stored (d * 5+1) (Ph a.v.k);obtain⟨bf,be⟩:=bb.stored (d * 5+2) (Ph a.v.n);obtain⟨bn,bm⟩:=bf.stored (d * 5+3) (PI a.v.s);obtain⟨aE,br⟩:=bn.stored (d * 5+4) (PD a.fixed)
   rw[CM (Lm g i d) d a (by rw[bo.out];omega),HJ aT (by rw[<-q.out];exact ae) aY.out] at aE
   have aZ:w.grownBy _ (some e):=PX ad (PX (hS wr (.cells #[PI a.name,Ph a.v.k,Ph a.v.n,PI a.v.s,PD a.fixed] 207) (some e)) (PX ⟨l.os,l.tape,l.output,l.size,λf p _=>l.block f p⟩ (PX (PX (PX (PX (ba) a6) be) bm) br)));clear E t;go_wp2
   go_roundw
   case rel=>exact⟨d+1,by omega,by omega,by go_num,by go_num,aZ,aE⟩
   case measure=>simp[intOf];omega):=Pq h;exact JZ):=Pq h;exact EK):=Pq h;exact oC):=Pq h;exact zt
  ·have b{G}(h:G:=by
   have j:((Lm g i d).flatMap Pr.h).length=(d+1) * 5:=by rw[CH (b:=5) (λ_=>rfl),I]
   have v:Hid (∀f,f<5->(wr.cell? (Pn e (d * 5+f))).isSome=true):=λf p=>by
    have:=D.cellAt (d * 5+f) Pv;rw[this,gq (by rw[j];omega)]
    rfl
   have t:Hid (∀f,wr.frozen? (Pn e f)=false):=D.frozenAt;have u:=Li (a:=d) D Pv;rw[xc (b:=5) (λ_=>rfl),Ja T (by rw[<-q.out])] at u;have l:=Y u;clear N u j I;go_wp2_with fail;rw[ahP wr e (d * 5) _ v.out t.out];go_simp;go_wp2;go_ret;exact⟨rfl,PX ad l.out.2,l.out.1⟩):=Pq h;exact z7):=Pq h;exact Kb):=Pq h;exact Ip):=Pq h;exact Kg
def KR (e r H:Nat)(g:List Ce)(m:PS)(s:Nat)(w:Py)(P:w.ownsRow H 262 6 (.slice (some (Pn e 0)) g.length r) g.length (g.flatMap Ce.h))(aH:g.length<=1000000000)(i:Nat)(X:fC m g=some i)(al:∀f a,i<f->g[f]?=some a->ZO m a.name=false)(u:w.heap[s]?=some (Qb #[PI m] 9)) :
  PN 316 #[.slice (some (Pn e 0)) g.length r,.func (.func 317) #[] #[PZ s 0]] w λO aD=>O=PY (.slice (some (Pn e 0)) ((g.eraseIdx i).length:Nat) r)/\w.grownBy aD (some e)/\aD.ownsRow H 262 6 (.slice (some (Pn e 0)) (g.eraseIdx i).length r) (g.eraseIdx i).length ((g.eraseIdx i).flatMap Ce.h):=by
 have F:w.cell? (Pn s 0)=some (PI m):=by simp[World.cell?,u]
 have ax:=aCu e r H g m s w P Pv i X F;have b{G}(h:G:=by
 go_enter func316,ntmps316;have b{G}(h:G:=by
 go_loopw [5,6] (λj f wr=>∃d:Nat,i<=d/\d+1<=n/\j=Ph d/\f=Ph ((d+1:Nat):Int)/\w.grownBy wr (some e)/\wr.ownsRow H 262 6 (.slice (some (Pn e 0)) n r) n ((Lm g i d).flatMap Ce.h)) (λ_ f _=>n+1 - (intOf f).toNat)
 case atStart=>exact⟨i,Qq,M,rfl,by go_num,aI,by rw[DC (by rw[<-q.out];exact M)];exact aK⟩
 case round=>
  have b{G}(h:G:=by
  by_cases ae:d+1<n
  ·have b{G}(h:G:=by
   obtain⟨aX,aW,L,_,⟨v,_,au⟩,_⟩:=od ap ay;have b{G}(h:G:=by
   have af:=aJ.out (d+1) a Pv U;have bQ:wr.cell? (Pn e ((d+1) * 6))=some (PI a.name):=v 0 _ rfl;have bH:wr.cell? (Pn e ((d+1) * 6+1))=some (Ph a.v.k):=v 1 _ rfl;have bR:wr.cell? (Pn e ((d+1) * 6+2))=some (Ph a.v.n):=v 2 _ rfl;have bS:wr.cell? (Pn e ((d+1) * 6+3))=some (PI a.v.s):=v 3 _ rfl;have bU:wr.cell? (Pn e ((d+1) * 6+4))=some (Ph a.kind):=v 4 _ rfl;have bZ:wr.cell? (Pn e ((d+1) * 6+5))=some (PD a.ready):=v 5 _ rfl
   have F:(wr.alloc (.cells #[PI a.name,Ph a.v.k,Ph a.v.n,PI a.v.s,Ph a.kind,PD a.ready] 262)).cell? (Pn s 0)=some (PI m):=by
    rw[g9 _ _ _ (gM N)];simp[World.cell?,N]
   have ah:=Gc m a s _ F;rw[show (a.name.toList==m.toList)=false from af] at ah;have aY:=Y U;have bq:=Y I;have A:∀f,f<6->∃bv,wr.cell? (Pn e (d * 6+f))=some bv:=λf p=>by
    have:=D.cellAt (d * 6+f) Pv;rw[this];obtain⟨x,j⟩:∃x,(Lm g i d)[d]?=some x:=⟨_,gq Pv⟩;rw[YG (a:=6) (λ_=>rfl) _ d f p,j];exact⟨_,gq (by simpa[Ce.h] using p)⟩
   obtain⟨u0,bm⟩:=A 0 PK;obtain⟨u1,ba⟩:=A 1 PK;obtain⟨u2,bj⟩:=A 2 PK;obtain⟨u3,bz⟩:=A 3 PK;obtain⟨u4,a1⟩:=A 4 PK;obtain⟨u5,bA⟩:=A 5 PK;have b{G}(h:G:=by
   have ak:Below (wr.heap.size+1) (wr.alloc (.cells #[PI a.name,Ph a.v.k,Ph a.v.n,PI a.v.s,Ph a.kind,PD a.ready] 262)) j:=l.mono Qh;have E:j.heap[wr.heap.size]?=some (Qb #[PI a.name,Ph a.v.k,Ph a.v.n,PI a.v.s,Ph a.kind,PD a.ready] 262):=(ak.block _ (kj _)).trans (hH wr _);have b{G}(h:G:=by
   have bW:j.cell? (Pn wr.heap.size 4)=some (Ph a.kind):=by simp[World.cell?,E]
   have bY:j.cell? (Pn wr.heap.size 5)=some (PD a.ready):=by simp[World.cell?,E]
   have t:∀f,j.cell? (Pn e f)=wr.cell? (Pn e f):=λf=>by
    rw[gD ak (a:=(Pn e f)) (by show e<_;omega),g9 _ _ _ aR]
   have bK:∀f,j.frozen? (Pn e f)=false:=λf=>by
    rw[hf (w:=wr.alloc (.cells #[PI a.name,Ph a.v.k,Ph a.v.n,PI a.v.s,Ph a.kind,PD a.ready] 262)) (a:=(Pn e f)) (ak.block e Pv),jO _ _ _ (by show e≠_;omega)]
    exact aU.out f
   have bN:j.cell? (Pn e (d * 6))=some u0:=(t _).trans bm;have b0:j.cell? (Pn e (d * 6+1))=some u1:=(t _).trans ba;have bP:j.cell? (Pn e (d * 6+2))=some u2:=(t _).trans bj;have bO:j.cell? (Pn e (d * 6+3))=some u3:=(t _).trans bz;have bX:j.cell? (Pn e (d * 6+4))=some u4:=(t _).trans a1;have bL:j.cell? (Pn e (d * 6+5))=some u5:=(t _).trans bA;have bI:e≠wr.heap.size:=Pv;have bJ:e<j.heap.size:=Pv
   have bi:j.ownsRow H 262 6 (.slice (some (Pn e 0)) n r) n ((Lm g i d).flatMap Ce.h):=D.kept (PX (hS _ _ none) ⟨l.os,l.tape,l.output,l.size,λf p _=>l.block f p⟩) (by simp[Value.ownBlock]);obtain⟨a8,bb⟩:=bi.stored (d * 6) (PI a.name);obtain⟨be,a7⟩:=a8.stored (d * 6+1) (Ph a.v.k);obtain⟨bh,bf⟩:=be.stored (d * 6+2) (Ph a.v.n);obtain⟨bo,bn⟩:=bh.stored (d * 6+3) (PI a.v.s);obtain⟨br,bx⟩:=bo.stored (d * 6+4) (Ph a.kind);obtain⟨aE,a6⟩:=br.stored (d * 6+5) (PD a.ready)
   rw[EL (Lm g i d) d a (by rw[bq.out];omega),HJ aT (by rw[<-q.out];exact ae) aY.out] at aE
   have aZ:w.grownBy _ (some e):=PX ad (PX (hS wr (.cells #[PI a.name,Ph a.v.k,Ph a.v.n,PI a.v.s,Ph a.kind,PD a.ready] 262) (some e)) (PX ⟨l.os,l.tape,l.output,l.size,λf p _=>l.block f p⟩ (PX (PX (PX (PX (PX (bb) a7) bf) bn) bx) a6)));clear E t;go_wp2
   go_roundw
   case rel=>exact⟨d+1,by omega,by omega,by go_num,by go_num,aZ,aE⟩
   case measure=>simp[intOf];omega):=Pq h;exact JZ):=Pq h;exact EK):=Pq h;exact oC):=Pq h;exact zt
  ·have b{G}(h:G:=by
   have j:((Lm g i d).flatMap Ce.h).length=(d+1) * 6:=by rw[CH (b:=6) (λ_=>rfl),I]
   have v:Hid (∀f,f<6->(wr.cell? (Pn e (d * 6+f))).isSome=true):=λf p=>by
    have:=D.cellAt (d * 6+f) Pv;rw[this,gq (by rw[j];omega)]
    rfl
   have t:Hid (∀f,wr.frozen? (Pn e f)=false):=D.frozenAt;have u:=Oa (a:=d) D Pv;rw[xc (b:=6) (λ_=>rfl),Ja T (by rw[<-q.out])] at u;have l:=Y u;clear N u j I;go_wp2_with fail;rw[ahR wr e (d * 6) _ v.out t.out];go_simp;go_wp2;go_ret;exact⟨rfl,PX ad l.out.2,l.out.1⟩):=Pq h;exact z7):=Pq h;exact Kb):=Pq h;exact Ip):=Pq h;exact Kg
def Ez {w W:Py}{a:PS}(b:Below (w.heap.size+1) (w.alloc (.cells #[PI a] 9)) W):W.heap[w.heap.size]?=some (Qb #[PI a] 9):=(b.block _ (kj _)).trans (hH w _)
section
variable (h:HP H R w c z o C B)(i:c.Small K)(g:K<=1000000000)(b:Int)(a:PS)
include h i g b a
def axG (l:c.gQ b a=none) :
  PN 315 #[PZ H 0,Ph b,PI a] w λd f=>d=PY (PD true)/\PG w f:=by
 obtain⟨u,v,s,t,E⟩:=h.c;have n:PG w (w.alloc (.cells #[PI a] 9)):=QK;obtain⟨F,r,m,p,e⟩:=vo (h.fQ n) i g b a;have q:r=none:=by
  rcases e with ⟨h,_⟩|⟨_,_,_,_,_,_,_,_,_,_,j,_⟩
  ·exact h
  ·rw[l] at j;cases j
 subst q;clear h e l;go_enter func315,ntmps315;exact JS
def S5 {p:Pr}(e:c.gQ b a=some p)(D:p.fixed=true) :
  PN 315 #[PZ H 0,Ph b,PI a] w λf j=>f=PY (PD false)/\PG w j:=by
 obtain⟨O,P,E,N,S⟩:=h.c;have u:PG w (w.alloc (.cells #[PI a] 9)):=QK;obtain⟨ad,ae,s,t,q⟩:=vo (h.fQ u) i g b a
 rcases q with ⟨_,d⟩|⟨T,x,U,F,M,I,rfl,_,_,_,d,rfl,_,m⟩
 ·rw[e] at d;cases d
 rw[e] at d;cases d;have v:=Y m;clear h e m;go_enter func315,ntmps315;go_wp2_with fail;refine cm s ?_;rintro f j ⟨rfl,rfl⟩;go_wp2_with fail;refine cm t ?_;rintro f k ⟨rfl,l⟩;obtain⟨n,L,X⟩:=v.out k l;have A:=n 4 _ rfl;rw[D] at A;have r:=((gi _ w).alloc Qq _).trans (l.mono Qh);clear n;go_wp2;go_ret;exact⟨rfl,r⟩
end
def iD {α:Type}(d:α->PS)(g:List α):Prop:=∀(e f:Nat) a b,g[e]?=some a->g[f]?=some b->(d a).toList=(d b).toList->e=f
def GL {α:Type}{a:α->PS}{e:List α}(h:iD a e){f:PS}{d:Nat}(l:e.findIdx? (λi=>ZO f (a i))=some d):∀g b,d<g->e[g]?=some b->ZO f (a b)=false:=by
 intro g b r j;obtain⟨p,q,_⟩:=jX.1 l
 by_cases i:ZO f (a b)=true
 ·have m:(a b).toList=f.toList:=by simpa[ZO] using i
  have n:(a e[d]).toList=f.toList:=by simpa[ZO] using q
  have:=h d g e[d] b (gq p) j (n.trans m.symm);omega
 ·simpa using i
section
variable (h:HP H R w c z o C B)(au:c.Small K)(j:K<=1000000000)
include h au j
def axH (d:Nat)(x:Ob)(s:c.objs[d]?=some x)(e:PS)(i:Nat)(ak:Pr)(r:fP e x.ps=some i)(N:x.ps[i]?=some ak)(aJ:ak.fixed=false)(aQ:iD Pr.name x.ps) :
  PN 315 #[PZ H 0,Ph (d:Int),PI e] w λm q=>m=PY (PD true)/\(∃a,HP H R q (c.Ux d ⟨x.code,x.ps.eraseIdx i⟩) z o a B)/\Qv Th H w q:=by
 have b{G}(h:G:=by
 obtain⟨a,aT,U,O,aR,af,P,a8,ax,bj,aD,_⟩:=ae.ob.at_ (i:=d) (e:=x.h) (by simp[s]);have u:=rq a aT _ d aR g;rw[<-O] at u;have l:g.ownsRow H 207 5 U x.ps.length (x.ps.flatMap Pr.h):=a8;have aE:=au.ps x (gC s);have n:=x3 a (d * 2) U x.ps H e g (P 1 U rfl) l Pv;obtain⟨v,T,rfl,bm,_,_⟩:=nD l N;rw[r] at n;simp only[mo] at n;have ah:=Y af;have a1:=Y s;have aZ:=Y N;have ay:=Y O;have aY:=Y r;have aM:=Y (GL (a:=Pr.name) aQ r)
 have bb:=Y (P 1 _ rfl);have S:=Y ax;have aX:=Y aD;have aO:=Y aE;clear P r s N h af O aE ax aD;go_enter func315,ntmps315;have b{G}(h:G:=by
 obtain⟨bo,bi,L,_,⟨F,bn,ba⟩,_⟩:=nD (Qs l f) aZ.out;have b{G}(h:G:=by
 have b{G}(h:G:=by
 have aW:=Ov v T H x.ps e w.heap.size k (Qs l f) (by have:=aO.out;omega) i aY.out aM.out M
 have be:a<k.heap.size:=gH S.out f.size;have D:k.cell? (Pn a (d * 2+1))=some (.slice (some (Pn v 0)) x.ps.length T):=(gD f (a:=(Pn a (d * 2+1))) S.out).trans bb.out;have E:k.frozen? (Pn a (d * 2+1))=false:=(hf (w:=g) (a:=(Pn a (d * 2+1))) (f.block a S.out)).trans (aX.out _);clear F M ba;go_wp2_with fail;refine cm aW ?_;rintro m aH ⟨rfl,al,a7⟩;have A:=I.GQ (a:=⟨x.code,x.ps.eraseIdx i⟩) a1.out ah.out ay.out al a7 (λaU ap=>.inl ap) rfl;have X:=Y A
 have aI:aH.cell? (Pn a (d * 2+1))=some (.slice (some (Pn v 0)) x.ps.length T)/\aH.frozen? (Pn a (d * 2+1))=false:=by
  have aU:some a≠some v:=λm=>by
   obtain⟨_,_,a6⟩:=I.ob.mF ah.out;exact(a6 a m.symm).2.2.1 (by rw[ay.out];rfl)
  have ap:=al.block a be aU;exact⟨(gN (w:=k) (a:=(Pn a (d * 2+1))) ap).trans D,(hf (w:=k) (a:=(Pn a (d * 2+1))) ap).trans E⟩
 exact J6):=Pq h;exact FH):=Pq h;exact oC):=Pq h;exact xN):=Pq h;exact Cj
def Na (d:Nat)(x:Ro)(s:c.PL[d]?=some x)(e:PS)(i:Nat)(ak:Ce)(r:fC e x.cs=some i)(N:x.cs[i]?=some ak)(aJ:ak.kind=4)(aQ:iD Ce.name x.cs) :
  PN 297 #[PZ H 0,Ph (d:Int),PI e] w λm q=>m=PY (PD true)/\(∃a,HP H R q (c.TJ d ⟨x.outer,x.gf,x.cs.eraseIdx i⟩) z o C a)/\Qv Th H w q:=by
 have b{G}(h:G:=by
 obtain⟨a,aT,U,O,aR,af,P,a8,ax,bj,aD,_⟩:=ae.ro.at_ (i:=d) (e:=x.h) (by simp[s]);have u:=pK a aT _ d aR g;rw[<-O] at u;have l:g.ownsRow H 262 6 U x.cs.length (x.cs.flatMap Ce.h):=a8;have aE:=au.cs x (gC s);have n:=w7 a (d * 3) U x.cs H e g (P 2 U rfl) l Pv;obtain⟨v,T,rfl,bm,_,_⟩:=od l N;rw[r] at n;simp only[mo] at n;have ah:=Y af;have a1:=Y s;have aZ:=Y N;have ay:=Y O;have aY:=Y r;have aM:=Y (GL (a:=Ce.name) aQ r)
 have bb:=Y (P 2 _ rfl);have S:=Y ax;have aX:=Y aD;have aO:=Y aE;clear P r s N h af O aE ax aD;go_enter func297,ntmps297;have b{G}(h:G:=by
 obtain⟨bo,bi,L,_,⟨F,bn,ba⟩,_⟩:=od (Qs l f) aZ.out;have b{G}(h:G:=by
 have b{G}(h:G:=by
 have aW:=KR v T H x.cs e w.heap.size k (Qs l f) (by have:=aO.out;omega) i aY.out aM.out M
 have be:a<k.heap.size:=gH S.out f.size;have D:k.cell? (Pn a (d * 3+2))=some (.slice (some (Pn v 0)) x.cs.length T):=(gD f (a:=(Pn a (d * 3+2))) S.out).trans bb.out;have E:k.frozen? (Pn a (d * 3+2))=false:=(hf (w:=g) (a:=(Pn a (d * 3+2))) (f.block a S.out)).trans (aX.out _);clear F M ba;go_wp2_with fail;refine cm aW ?_;rintro m aH ⟨rfl,al,a7⟩;have A:=I.tu (a:=⟨x.outer,x.gf,x.cs.eraseIdx i⟩) a1.out ah.out ay.out al a7 (λaU ap=>.inl ap) ⟨rfl,rfl⟩
 have X:=Y A;have aI:aH.cell? (Pn a (d * 3+2))=some (.slice (some (Pn v 0)) x.cs.length T)/\aH.frozen? (Pn a (d * 3+2))=false:=by
  have aU:some a≠some v:=λm=>by
   obtain⟨_,_,a6⟩:=I.ro.mF ah.out;exact(a6 a m.symm).2.2.1 (by rw[ay.out];rfl)
  have ap:=al.block a be aU;exact⟨(gN (w:=k) (a:=(Pn a (d * 3+2))) ap).trans D,(hf (w:=k) (a:=(Pn a (d * 3+2))) ap).trans E⟩
 exact J6):=Pq h;exact FH):=Pq h;exact oC):=Pq h;exact xN):=Pq h;exact Cj
def Pe (f:Int)(b:PS){n:Ce}(d:c.Y2 f b=some n)(ad:n.kind≠4) :
  PN 297 #[PZ H 0,Ph f,PI b] w λe g=>e=PY (PD false)/\PG w g:=by
 obtain⟨L,M,v,I,N⟩:=h.c;have t:PG w (w.alloc (.cells #[PI b] 9)):=QK;obtain⟨U,X,r,s,p⟩:=ZY (h.fQ t) au j f b
 rcases p with ⟨_,a⟩|⟨O,x,P,A,F,D,rfl,_,_,_,a,rfl,_,l⟩
 ·rw[d] at a;cases a
 rw[d] at a;cases a;have u:=Y l;clear h d l;go_enter func297,ntmps297;go_wp2_with fail;refine cm r ?_;rintro e g ⟨rfl,rfl⟩;go_wp2_with fail;refine cm s ?_;rintro e k ⟨rfl,i⟩;obtain⟨m,E,S⟩:=u.out k i;have T:=m 4 _ rfl;have q:=((gi _ w).alloc Qq _).trans (i.mono Qh);clear m;go_wp2;go_ret;exact⟨rfl,q⟩
def ang (e:Int)(f:PS)(D:c.Y2 e f=none)(i:Bool)(E:Mo)(s:∀W,PG w W->PN 315 #[PZ H 0,Ph (c.SX e),PI f] W λa w'=>a=PY (PD i)/\QM H R w' E/\Qv Th H W w') :
  PN 297 #[PZ H 0,Ph e,PI f] w λa w'=>a=PY (PD i)/\QM H R w' E/\Qv Th H w w':=by
 obtain⟨ay,aD,b0,ax,ah⟩:=h.c;have ad:PG w (w.alloc (.cells #[PI f] 9)):=QK;obtain⟨aE,al,q,r,T⟩:=ZY (h.fQ ad) au j e f;have ae:al=none:=by
  rcases T with ⟨h,_⟩|⟨_,_,_,_,_,_,_,_,_,_,d,_⟩
  ·exact h
  ·rw[D] at d;cases d
 subst ae;have b{G}(h:G:=by
 rw[<-n] at s;have U:=Y s;clear h T D s n;go_enter func297,ntmps297;have b{G}(h:G:=by
 have p:=((gi _ w).alloc Qq _).trans (d.mono Qh);have t:k.heap[w.heap.size]?=some (Qb #[PI f] 9):=Ez (d.mono Qh);have X:k.cell? (Pn w.heap.size 0)=some (PI f):=by simp[World.cell?,t]
 have L:=Y t;clear t;go_wp2_with fail;refine wp_region_held (S:=λW=>W.cell? (Pn w.heap.size 0)=some (PI f)) Qz ?_;change wpAnyH _ _ _ _ _ _ _ _ (World.drew _);have g:Hid (k.drew.cell? (Pn w.heap.size 0)=some (PI f)):=X;refine wh 0 (PZ H 0) g.out ?_;refine wh 1 (PZ H 0) g.out ?_;refine wh 2 (Ph e) g.out ?_;refine wg 4 (PI f) rfl (fU ⟨by kernel_rfl,λW M=>by go_simp⟩) g.out ?_;refine Yd 3 λK j=>?_;go_simp;refine cm (O.out _ p.drew) ?_;rintro a ap ⟨rfl,rfl⟩;refine j.out _ _ g.out (λ_=>?_);clear j K
 refine Yd 5 λK j=>?_;go_simp;refine cm (U.out _ p.drew) ?_;rintro a N ⟨rfl,ak,u⟩;have af:=(Qv.of p.drew (Qe ah)).trans u;have F:Hid (N.cell? (Pn w.heap.size 0)=some (PI f)):=by
  have M:=u.rest _ _ 9 L.out PK;simp[Hid,World.cell?,M]
 refine j.out _ _ F.out (λ_=>?_);clear j K u;refine wh 6 (PD i) F.out ?_;refine wpAnyH_done Qz ?_ _;go_simp;go_wp2;go_ret;exact⟨rfl,ak,af⟩):=Pq h;exact oT):=Pq h;exact yC
end
def HP.t1 (h:HP H R w c z o C B)(d:Int){a:PO}(g:w.grownBy k z.ownBlock)(i:k.ownsRow H 185 2 a (c.objs.length+1) (flat (c.objs.map Ob.h) C++[Ph d,RF])) :
  HP H R (k.setCell (Pn H 0) a) ⟨c.objs++[⟨d,[]⟩],c.PL⟩ a o (C++[RF]) B/\Qv Th H w (k.setCell (Pn H 0) a):=by
 obtain⟨j,f⟩:=h.ob.push (Qe (gM h.gG)) [Ph d] rfl g (by rw[gF];exact i)
 have b:=f.rest H _ 84 h.gG PK;have e:Qv [84] H k (k.setCell (Pn H 0) a):=Qv.setCell (Qv.of RV (Qe (gM b))) b Qh Qq _;refine⟨⟨?_,?_,(h.ro.f2 f PK PK).f2 e PK PK⟩,(f.mono PK Qq).trans (e.mono PK Qq)⟩
 ·rw[hs k H 0 _ 84 _ b];rfl
 ·have:=j.f2 e PK PK;rw[hc];exact this
def HP.rC (h:HP H R w c z o C B)(b d:Int){a:PO}(i:w.grownBy k o.ownBlock)(j:k.ownsRow H 198 3 a (c.PL.length+1) (flat (c.PL.map Ro.h) B++[Ph b,Ph d,RF])) :
  HP H R (k.setCell (Pn H 1) a) ⟨c.objs,c.PL++[⟨b,d,[]⟩]⟩ z a C (B++[RF])/\Qv Th H w (k.setCell (Pn H 1) a):=by
 obtain⟨l,g⟩:=h.ro.push (Qe (gM h.gG)) [Ph b,Ph d] rfl i (by rw[gF];exact j)
 have e:=g.rest H _ 84 h.gG PK;have f:Qv [84] H k (k.setCell (Pn H 1) a):=Qv.setCell (Qv.of RV (Qe (gM e))) e Qh Qq _;refine⟨⟨?_,(h.ob.f2 g PK PK).f2 f PK PK,?_⟩,(g.mono PK Qq).trans (f.mono PK Qq)⟩
 ·rw[hs k H 1 _ 84 _ e];rfl
 ·have:=l.f2 f PK PK;rw[hc];exact this
def NC:(prog.info? 185).map (λa=>(a.zero,a.size,a.bytes))=some (some (.agg #[Ph 0,RF]),2,32):=by kernel_rfl
def MQ:(prog.info? 198).map (λa=>(a.zero,a.size,a.bytes))=some (some (.agg #[Ph 0,Ph 0,RF]),3,40):=by kernel_rfl
def aj8 (w:Py)(H:Nat)(e:w.heap.size=H)(b:Int)(a:Nat)(d:PO)(h:([Ph b,RF]:List PO)[a]?=some d) :
  (w.alloc (.cells #[Ph b,RF] 185)).cell? (Addr.add (Pn H 0) a)=some d:=by
 subst e
 match a,h with
 |0,h=>simp at h;subst h;simp[Addr.add]
 |1,h=>simp at h;subst h;simp[Addr.add]
 |f+2,h=>simp at h
def S3 (d:Int):∀b ∈ ([Ph d,RF]:List PO),b.oneCell'=true:=by
 intro b a;simp at a
 rcases a with rfl|rfl <;> rfl
def YH (w:Py)(H:Nat)(g:w.heap.size=H)(b d:Int)(f:PO)(a:Nat)(e:PO)(h:([Ph b,Ph d,f]:List PO)[a]?=some e) :
  (w.alloc (.cells #[Ph b,Ph d,f] 198)).cell? (Addr.add (Pn H 0) a)=some e:=by
 subst g
 match a,h with
 |0,h=>simp at h;subst h;simp[Addr.add]
 |1,h=>simp at h;subst h;simp[Addr.add]
 |2,h=>simp at h;subst h;simp[Addr.add]
 |i+3,h=>simp at h
def tM (d e:Int):∀b ∈ ([Ph d,Ph e,RF]:List PO),b.oneCell'=true:=by
 intro b a;simp at a
 rcases a with rfl|rfl|rfl <;> rfl
def OO (h:HP H R w c z o C B)(p:c.Small K)(U:K<=1000000000)(a:Int) :
  PN 49 #[PZ H 0,Ph a] w λd g=>d=PY (Ph c.objs.length)/\QM H R g ⟨c.objs++[⟨a,[]⟩],c.PL⟩/\Qv Th H w g:=by
 obtain⟨E,F,n,D,S⟩:=h.c;have I:=p.o;have f:w.ownsRow H 185 2 z c.objs.length (flat (c.objs.map Ob.h) C):=by have:=h.ob.row;rwa [gF] at this
 obtain⟨O,m⟩:=xH c.objs.length;rw[<-m.out] at f I ⊢;obtain⟨P,t,v,q,s⟩:=g2 NC;go_enter func49,ntmps49
 go_wp2_with (at_builtin;refine wpList_append_lies _ rfl _ _ 76 rfl H 185 P _ 2 32 underlying76 t v q s rfl PK _ _ _ rfl (f.alloc _) (Pn w.heap.size 0) 1 1 [Ph a,RF] rfl rfl (aj8 w _ rfl a) (S3 a) PK (by unfold maxLen;omega) Pv SC (w.heap.size+1) Qh ?_)
 intro N M b L A u _;have i:w.grownBy b z.ownBlock:=PX (hS _ _ _) A;have j:z.ownBlock≠some H:=λd=>by
  obtain⟨X,r⟩:=QZ f d;exact Sj r h.gG PK rfl
 have e:b.heap[H]?=some (.cells (z::o::R).toArray 84 (0,0)):=by rw[i.block H S (λd=>j d.symm)];exact h.gG
 have ad:b.cell? (Pn H 0)=some z:=by simp[World.cell?,e]
 have ae:b.frozen? (Pn H 0)=false:=by simp[World.frozen?,e]
 have T:H<b.heap.size:=gM e;have l:=Y (h.t1 a (a:=.slice (some (Pn N 0)) (O+1) M) i (by rw[<-m.out];exact L))
 clear j e u E F n D;go_wp2;go_ret;exact⟨by simp,⟨_,_,_,_,l.out.1⟩,l.out.2⟩
def Df (h:HP H R w c z o C B)(a:Nat)(x:Ob)(g:c.objs[a]?=some x):∃e:Addr,PN 126 #[z,Ph (a:Int)] w λl d=>l=PY (.pointer (some e))/\d=w:=by
 obtain⟨m,j,u,i,f,r,q,t,s,p,n,_⟩:=h.ob.at_ (i:=a) (e:=x.h) (by simp[g]);have b:=rq m j _ a f w;rw[<-i] at b;exact⟨_,b⟩
section
variable (h:HP H R w c z o C B)(au:c.Small K)(a:K<=1000000000)
include h au a
def apv :
  PN 105 #[PZ H 0,Ph (-1),Ph (-1)] w λd ak=>d=PY (Ph (c.PL.length:Int))/\QM H R ak ⟨c.objs,c.PL++[⟨(-1),(-1),[]⟩]⟩/\Qv Th H w ak:=by
 obtain⟨s,u,b0,r,aT⟩:=h.c;have D:=Y au.r;have aR:=Y aT;have aW:PG w (w.alloc (.cells #[Ph (-1),Ph (-1),RF] 198)):=QK;have aE:=YI o _ (RH h.ro.row) (-1) (.inl PK) (w.alloc (.cells #[Ph (-1),Ph (-1),RF] 198));have aJ:=ZB z _ (RH h.ob.row) (-1) (.inl PK) (w.alloc (.cells #[Ph (-1),Ph (-1),RF] 198));go_enter func105,ntmps105;go_wp2_with fail;refine cm aE ?_;rintro d k ⟨rfl,f⟩;rw[f];clear f;go_wp2_with fail;refine cm aJ ?_;have g{G}(h:G:=by
 obtain⟨b,p⟩:=xE (w.alloc (.cells #[Ph (-1),Ph (-1),RF] 198));have g{G}(h:G:=by
 refine hT 4 5 (λK a=>?ca) λK a=>?cb
 case' ca=>
  go_simp;refine a _ _ ?_;clear a K;refine VP 5 ?_;refine VP 6 ?_
 case' cb=>
  go_simp;refine a _ _ ?_;clear a K;refine hT 4 6 (λK a=>?cc) λK a=>?cd
 case' cc=>
  go_simp;refine a _ _ ?_;clear a K;refine VP 6 ?_
 case' cd=>
  go_simp;refine a _ _ ?_;clear a K;refine VP 4 ?_
 all_goals
  refine WB 7 λK a=>?_;refine step_append_lies _ rfl _ _ 77 rfl H 198 ad _ 3 40 ls M O E L rfl PK _ _ _ rfl (X.drew.alloc _) (Pn b.heap.size 0) 1 1 [Ph (-1),Ph (-1),RF] rfl rfl (YH _ _ rfl _ _ _) (tM _ _) PK (by have:=D.out;unfold maxLen;omega) (by have:=D.out;omega) SC (b.heap.size+1) Qh ?_
  intro aO aM ah aL aK aI _;refine a _ _ ?_;clear a K;have al:b.grownBy ah o.ownBlock:=PX (PX (a:=b.drew) ⟨rfl,rfl,rfl,Qq,λ_ _ _=>rfl⟩ (hS _ _ _)) aK;have ap:=Y (e.rC (-1) (-1) (a:=.slice (some (Pn aO 0)) (c.PL.length+1) aM) al aL);have aQ:ah.cell? (Pn H 1)=some o/\ah.frozen? (Pn H 1)=false:=by
   have aH:some H≠o.ownBlock:=λd=>by
    obtain⟨m,aD⟩:=QZ e.ro.row d.symm;exact Sj aD e.gG PK rfl
   have ay:=al.block H ae aH;exact⟨(gN (w:=b) (a:=(Pn H 1)) ay).trans j,(hf (w:=b) (a:=(Pn H 1)) ay).trans n⟩
  obtain⟨a1,a6⟩:=aQ;clear aI j n S F N U;have aX:=D.out;refine wt 8 (PZ H 0) ?_;refine wt 9 (PZ H 1) ?_;refine VP 10 ?_;refine hj Qz ?_ _;go_simp;go_wp2;go_ret;exact⟨rfl,⟨_,_,_,_,ap.out.1⟩,(Qv.of q (Qe aR.out)).trans ap.out.2⟩):=Pq h;exact rK):=Pq h;exact th
def apw (l:Nat)(x:Ro)(bO:c.PL[l]?=some x) :
  PN 105 #[PZ H 0,Ph (l:Int),Ph (-1)] w λd ak=>d=PY (Ph (c.PL.length:Int))/\QM H R ak ⟨c.objs,c.PL++[⟨(l:Int),(-1),[]⟩]⟩/\Qv Th H w ak:=by
 obtain⟨s,u,b0,r,aJ⟩:=h.c;have D:=Y au.r;have aE:=Y aJ;have aI:PG w (w.alloc (.cells #[Ph (l:Int),Ph (-1),RF] 198)):=QK;obtain⟨aX,aH⟩:=qP (h.fQ aI) l x bO;clear bO;have aD:=ZB z _ (RH h.ob.row) (-1) (.inl PK) (w.alloc (.cells #[Ph (l:Int),Ph (-1),RF] 198));exact Bg
def apy (A:Nat)(y:Ob)(al:c.objs[A]?=some y) :
  PN 105 #[PZ H 0,Ph (-1),Ph (A:Int)] w λd ak=>d=PY (Ph (c.PL.length:Int))/\QM H R ak ⟨c.objs,c.PL++[⟨(-1),(A:Int),[]⟩]⟩/\Qv Th H w ak:=by
 obtain⟨s,u,b0,r,aW⟩:=h.c;have D:=Y au.r;have aT:=Y aW;have aK:PG w (w.alloc (.cells #[Ph (-1),Ph (A:Int),RF] 198)):=QK;have aH:=YI o _ (RH h.ro.row) (-1) (.inl PK) (w.alloc (.cells #[Ph (-1),Ph (A:Int),RF] 198));obtain⟨a6,aX⟩:=Df (h.fQ aK) A y al;clear al;go_enter func105,ntmps105;go_wp2_with fail;refine cm aH ?_;rintro d k ⟨rfl,f⟩;rw[f];clear f;go_wp2_with fail;refine cm aX ?_;have g{G}(h:G:=by
 obtain⟨b,p⟩:=xE (w.alloc (.cells #[Ph (-1),Ph (A:Int),RF] 198));have g{G}(h:G:=by
 refine hT 4 5 (λK a=>?ca) λK a=>?cb
 case' ca=>
  go_simp;refine a _ _ ?_;clear a K;refine VP 5 ?_;refine VP 6 ?_
 case' cb=>
  go_simp;refine a _ _ ?_;clear a K;refine hT 4 6 (λK a=>?cc) λK a=>?cd
 case' cc=>
  go_simp;refine a _ _ ?_;clear a K;refine VP 6 ?_
 case' cd=>
  go_simp;refine a _ _ ?_;clear a K;refine VP 4 ?_
 all_goals
  refine WB 7 λK a=>?_;refine step_append_lies _ rfl _ _ 77 rfl H 198 ad _ 3 40 ls M O E L rfl PK _ _ _ rfl (X.drew.alloc _) (Pn b.heap.size 0) 1 1 [Ph (-1),Ph (A:Int),RF] rfl rfl (YH _ _ rfl _ _ _) (tM _ _) PK (by have:=D.out;unfold maxLen;omega) (by have:=D.out;omega) SC (b.heap.size+1) Qh ?_
  intro aQ aO ah aM aL aJ _;refine a _ _ ?_;clear a K;have ap:b.grownBy ah o.ownBlock:=PX (PX (a:=b.drew) ⟨rfl,rfl,rfl,Qq,λ_ _ _=>rfl⟩ (hS _ _ _)) aL;have ay:=Y (e.rC (-1) (A:Int) (a:=.slice (some (Pn aQ 0)) (c.PL.length+1) aO) ap aM);have aR:ah.cell? (Pn H 1)=some o/\ah.frozen? (Pn H 1)=false:=by
   have aI:some H≠o.ownBlock:=λd=>by
    obtain⟨m,aE⟩:=QZ e.ro.row d.symm;exact Sj aE e.gG PK rfl
   have aD:=ap.block H ae aI;exact⟨(gN (w:=b) (a:=(Pn H 1)) aD).trans j,(hf (w:=b) (a:=(Pn H 1)) aD).trans n⟩
  obtain⟨a7,a8⟩:=aR;clear aJ j n S F N U;have a1:=D.out;refine wt 8 (PZ H 0) ?_;refine wt 9 (PZ H 1) ?_;refine VP 10 ?_;refine hj Qz ?_ _;go_simp;go_wp2;go_ret;exact⟨rfl,⟨_,_,_,_,ay.out.1⟩,(Qv.of q (Qe aT.out)).trans ay.out.2⟩):=Pq h;exact rK):=Pq h;exact th
def apz (l:Nat)(x:Ro)(bO:c.PL[l]?=some x)(A:Nat)(y:Ob)(al:c.objs[A]?=some y) :
  PN 105 #[PZ H 0,Ph (l:Int),Ph (A:Int)] w λd ak=>d=PY (Ph (c.PL.length:Int))/\QM H R ak ⟨c.objs,c.PL++[⟨(l:Int),(A:Int),[]⟩]⟩/\Qv Th H w ak:=by
 obtain⟨s,u,b0,r,aT⟩:=h.c;have D:=Y au.r;have aR:=Y aT;have aD:PG w (w.alloc (.cells #[Ph (l:Int),Ph (A:Int),RF] 198)):=QK;obtain⟨a1,aX⟩:=qP (h.fQ aD) l x bO;clear bO;obtain⟨a7,aW⟩:=Df (h.fQ aD) A y al;clear al;go_enter func105,ntmps105;go_wp2_with fail;refine cm aX ?_;rintro d k ⟨rfl,f⟩;rw[f];clear f;go_wp2_with fail;refine cm aW ?_;have g{G}(h:G:=by
 obtain⟨b,p⟩:=xE (w.alloc (.cells #[Ph (l:Int),Ph (A:Int),RF] 198));have g{G}(h:G:=by
 refine hT 4 5 (λK a=>?ca) λK a=>?cb
 case' ca=>
  go_simp;refine a _ _ ?_;clear a K;refine VP 5 ?_;refine VP 6 ?_
 case' cb=>
  go_simp;refine a _ _ ?_;clear a K;refine hT 4 6 (λK a=>?cc) λK a=>?cd
 case' cc=>
  go_simp;refine a _ _ ?_;clear a K;refine VP 6 ?_
 case' cd=>
  go_simp;refine a _ _ ?_;clear a K;refine VP 4 ?_
 all_goals
  refine WB 7 λK a=>?_;refine step_append_lies _ rfl _ _ 77 rfl H 198 ad _ 3 40 ls M O E L rfl PK _ _ _ rfl (X.drew.alloc _) (Pn b.heap.size 0) 1 1 [Ph (l:Int),Ph (A:Int),RF] rfl rfl (YH _ _ rfl _ _ _) (tM _ _) PK (by have:=D.out;unfold maxLen;omega) (by have:=D.out;omega) SC (b.heap.size+1) Qh ?_
  intro aO aM ah aL aK aJ _;refine a _ _ ?_;clear a K;have ap:b.grownBy ah o.ownBlock:=PX (PX (a:=b.drew) ⟨rfl,rfl,rfl,Qq,λ_ _ _=>rfl⟩ (hS _ _ _)) aK;have ay:=Y (e.rC (l:Int) (A:Int) (a:=.slice (some (Pn aO 0)) (c.PL.length+1) aM) ap aL);have aQ:ah.cell? (Pn H 1)=some o/\ah.frozen? (Pn H 1)=false:=by
   have aI:some H≠o.ownBlock:=λd=>by
    obtain⟨m,aH⟩:=QZ e.ro.row d.symm;exact Sj aH e.gG PK rfl
   have aE:=ap.block H ae aI;exact⟨(gN (w:=b) (a:=(Pn H 1)) aE).trans j,(hf (w:=b) (a:=(Pn H 1)) aE).trans n⟩
  obtain⟨a8,ba⟩:=aQ;clear aJ j n S F N U;have a6:=D.out;refine wt 8 (PZ H 0) ?_;refine wt 9 (PZ H 1) ?_;refine VP 10 ?_;refine hj Qz ?_ _;go_simp;go_wp2;go_ret;exact⟨rfl,⟨_,_,_,_,ay.out.1⟩,(Qv.of q (Qe aR.out)).trans ay.out.2⟩):=Pq h;exact rK):=Pq h;exact th
end
structure Mo.Ok (M:Mo):Prop where
 out:∀(i:Nat) x,M.PL[i]?=some x->-1<=x.outer/\x.outer<i
 obj:∀(i:Nat) x,M.PL[i]?=some x->x.gf = -1\/∃j:Nat,x.gf=j/\j<M.objs.length
 up:∀(i:Nat) x,M.objs[i]?=some x->iD Pr.name x.ps
 uc:∀(i:Nat) x,M.PL[i]?=some x->iD Ce.name x.cs
def Mo.kf (c:Mo)(b:PS):Nat->Int->Int
 |0,_=>-1
 |d+1,a=>match c.ro a with
  |none=>-1
  |some x=>if c.has a b then a else c.kf b d x.outer
def Mo.find (c:Mo)(a:Int)(b:PS):Int:=c.kf b (c.PL.length+1) a
def BW {c:Mo}(j:c.Ok)(d:PS):∀(a:Nat)(e:Int),e<a->c.iw d e (c.kf d (a+1) e)
 |a,e,n=>by
  rw[Mo.kf]
  rcases QC c e with ⟨g,_⟩|⟨b,x,rfl,f,m⟩
  ·rw[g];exact .out e g
  ·rw[m]
   show c.iw d b (if c.has b d=true then (b:Int) else c.kf d a x.outer)
   cases i:c.has b d with
   |true=>rw[fY rfl];exact .here b x f i
   |false=>
    rw[fT PK];have l:=j.out b x f;refine .on b x _ f i l.2 ?_
    cases a with
    |zero=>omega
    |succ a=>exact BW j d a x.outer Pv
def aCW {c:Mo}{a:Int}{x:Ro}(h:c.ro a=some x):a<c.PL.length:=by
 rcases QC c a with ⟨b,_⟩|⟨e,y,rfl,d,_⟩
 ·rw[b] at h;cases h
 ·have:=(gs.1 d).1;omega
def apS {c:Mo}(g:c.Ok)(a:Int)(b:PS):c.iw b a (c.find a b):=by
 unfold Mo.find
 by_cases d:a<c.PL.length
 ·exact BW g b _ a d
 ·have e:c.ro a=none:=by
   cases f:c.ro a with
   |none=>rfl
   |some x=>exact absurd (aCW f) d
  rw[Mo.kf,e];exact .out a e
def Mo.put (c:Mo)(a:Int)(e:PS)(v:Va)(fx:Bool):Int×Mo:=
 match c.ob a with
 |none=>(7,c)
 |some x=>match fP e x.ps with
  |none=>(0,c.Ux a.toNat ⟨x.code,x.ps++[⟨e,v,fx⟩]⟩)
  |some d=>match x.ps[d]? with
   |none=>(0,c)
   |some b=>(0,c.Ux a.toNat ⟨x.code,x.ps.set d ⟨b.name,v,b.fixed⟩⟩)
def Mo.cut (c:Mo)(b:Int)(e:PS):Bool×Mo:=
 match c.ob b with
 |none=>(true,c)
 |some x=>match fP e x.ps with
  |none=>(true,c)
  |some a=>match x.ps[a]? with
   |none=>(true,c)
   |some d=>if d.fixed then (false,c) else (true,c.Ux b.toNat ⟨x.code,x.ps.eraseIdx a⟩)
def Mo.gc (c:Mo)(d:Int)(b:PS)(a:Int)(e:Va):Int×Mo:=
 match c.ro d with
 |none=>(7,c)
 |some x=>if x.gf≠-1 then (1,c) else match fC b x.cs with
  |some _=>(9,c)
  |none=>(0,c.TJ d.toNat ⟨x.outer,x.gf,x.cs++[⟨b,e,a,!(a==1||a==2)⟩]⟩)
def Mo.start (c:Mo)(d:Int)(e:PS)(f:Va):Int×Mo:=
 match c.ro d with
 |none=>(7,c)
 |some x=>match fC e x.cs with
  |none=>(7,c)
  |some b=>match x.cs[b]? with
   |none=>(7,c)
   |some a=>(0,c.TJ d.toNat ⟨x.outer,x.gf,x.cs.set b ⟨a.name,f,a.kind,true⟩⟩)
def Mo.read (c:Mo)(d:Int)(b:PS):Va×Int:=
 match c.Y2 d b with
 |some a=>if a.ready then (a.v,0) else (⟨0,0,⟨#[]⟩⟩,6)
 |none=>match c.gQ (c.SX d) b with
  |some a=>(a.v,0)
  |none=>(⟨0,0,⟨#[]⟩⟩,7)
def Mo.write (c:Mo)(b:Int)(d:PS)(e:Va):Int×Mo:=
 if c.has b d then
  match c.Y2 b d with
  |none=>c.put (c.SX b) d e false
  |some a=>if a.ready=false then (6,c) else if a.kind=2 then (1,c) else if a.kind=3 then (5,c) else
   match c.ro b with
   |none=>(7,c)
   |some x=>match fC d x.cs with
    |none=>(7,c)
    |some f=>(0,c.TJ b.toNat ⟨x.outer,x.gf,x.cs.set f ⟨a.name,e,a.kind,a.ready⟩⟩)
 else (7,c)
def Mo.drop (c:Mo)(a:Int)(b:PS):Bool×Mo:=
 match c.Y2 a b with
 |none=>c.cut (c.SX a) b
 |some d=>if d.kind≠4 then (false,c) else
  match c.ro a with
  |none=>(false,c)
  |some x=>match fC b x.cs with
   |none=>(false,c)
   |some e=>(true,c.TJ a.toNat ⟨x.outer,x.gf,x.cs.eraseIdx e⟩)
def Mo.Qo (c:Mo)(m:Int):Mo:=⟨c.objs++[⟨m,[]⟩],c.PL⟩
def Mo.scope (c:Mo)(b a:Int):Mo:=⟨c.objs,c.PL++[⟨if (c.ro b).isSome then b else -1,if (c.ob a).isSome then a else -1,[]⟩]⟩
section
variable (h:QM H R w c)
include h
def QM.lt:H<w.heap.size:=by
 obtain⟨_,_,_,_,h⟩:=h;exact h.c.2.2.2.2
def QM.fQ (a:PG w k):QM H R k c:=by
 obtain⟨z,o,C,B,h⟩:=h;exact⟨z,o,C,B,h.fQ a⟩
def QM.same (a:PG w k):QM H R k c/\Qv Th H w k:=⟨h.fQ a,Qv.of a (Qe h.lt)⟩
def TE (r:c.Small K)(p:K<=1000000000)(f:Int)(a:PS)(b:Va)(fx:Bool) :
  PN 56 #[hP H,Ph f,PI a,vA b,PD fx] w λm g=>m=PY (Vg (c.put f a b fx).1)/\QM H R g (c.put f a b fx).2/\Qv Th H w g:=by
 have A:=h;obtain⟨z,o,C,B,h⟩:=h
 rcases SY c f with ⟨t,_⟩|⟨e,x,rfl,q,u⟩
 ·refine(Lh h f a b fx t).mono ?_;rintro m g ⟨rfl,d⟩;have l:c.put f a b fx=(7,c):=by unfold Mo.put;rw[t]
  rw[l];exact⟨rfl,A.same d⟩
 ·
  cases i:fP a x.ps with
  |none=>
   refine(atX h r p e x q a b fx i).mono ?_;rintro m g ⟨rfl,⟨d,j⟩,n⟩;have l:c.put e a b fx=(0,c.Ux e ⟨x.code,x.ps++[⟨a,b,fx⟩]⟩):=by unfold Mo.put;rw[u];simp only[i,iU]
   rw[l];exact⟨rfl,⟨z,o,d,B,j⟩,n⟩
  |some d=>
   have v:d<x.ps.length:=by
    obtain⟨j,_⟩:=jX.1 i;exact j
   have s:x.ps[d]?=some x.ps[d]:=gq v;refine(Be h r p e x q a b fx d _ i s).mono ?_;rintro m g ⟨rfl,j,n⟩;have l:c.put e a b fx=(0,c.Ux e ⟨x.code,x.ps.set d ⟨(x.ps[d]).name,b,(x.ps[d]).fixed⟩⟩):=by unfold Mo.put;rw[u];simp only[i,s,iU]
   rw[l];exact⟨rfl,⟨z,o,C,B,j⟩,n⟩
def rJ (i:c.Ok)(f:c.Small K)(e:K<=1000000000)(a:Int)(b:PS) :
  PN 195 #[hP H,Ph a,PI b] w λg d=>g=PY (Ph (c.find a b))/\PG w d:=by
 obtain⟨z,o,C,B,h⟩:=h;exact wa h f e a _ b (apS i a b)
end
section
variable (h:QM H R w c)(g:c.Small K)(f:K<=1000000000)(d:Int)(a:PS)
include h g f d a
def axP :
  PN 290 #[hP H,Ph d,PI a] w λn m=>n=PY (.tuple #[vA (c.read d a).1,Vg (c.read d a).2])/\PG w m:=by
 obtain⟨z,o,C,B,h⟩:=h
 cases b:c.Y2 d a with
 |some l=>
  have i:=apK h g f d a b
  cases j:l.ready with
  |true=>
   rw[j,fY rfl] at i;have e:c.read d a=(l.v,0):=by unfold Mo.read;simp only[b,j,hq]
   rw[e];exact i
  |false=>
   rw[j,fT PK] at i;have e:c.read d a=(⟨0,0,⟨#[]⟩⟩,6):=by unfold Mo.read;simp only[b,j];rfl
   rw[e];exact i
 |none=>
  cases i:c.gQ (c.SX d) a with
  |none=>
   have e:c.read d a=(⟨0,0,⟨#[]⟩⟩,7):=by unfold Mo.read;simp only[b,i]
   rw[e];exact C7 h g f d a b _ 0 0 ⟨#[]⟩ rfl _ (λW l=>apJ (h.fQ l) g f _ a i)
  |some j=>
   have e:c.read d a=(j.v,0):=by unfold Mo.read;simp only[b,i]
   rw[e];exact C7 h g f d a b _ j.v.k j.v.n j.v.s rfl _ (λW l=>Pw (h.fQ l) g f _ a i)
def Yn (b:Int)(e:Va) :
  PN 128 #[hP H,Ph d,PI a,Ph b,vA e] w λs n=>s=PY (Vg (c.gc d a b e).1)/\QM H R n (c.gc d a b e).2/\Qv Th H w n:=by
 have A:=h;obtain⟨z,o,C,B,h⟩:=h
 rcases QC c d with ⟨E,_⟩|⟨i,x,rfl,q,v⟩
 ·refine(apP h d a b e E).mono ?_;rintro s n ⟨rfl,p⟩;have m:c.gc d a b e=(7,c):=by unfold Mo.gc;rw[E]
  rw[m];exact⟨rfl,A.same p⟩
 ·by_cases j:x.gf = -1
  ·
   cases l:fC a x.cs with
   |some r=>
    have t:r<x.cs.length:=by
     obtain⟨D,_⟩:=jX.1 l;exact D
    refine(O6 h g f i x q a b e j r _ l (gq t)).mono ?_;rintro s n ⟨rfl,p⟩;have m:c.gc i a b e=(9,c):=by unfold Mo.gc;rw[v];simp[j,l]
    rw[m];exact⟨rfl,A.same p⟩
   |none=>
    have m:c.gc i a b e=(0,c.TJ i ⟨x.outer,x.gf,x.cs++[⟨a,e,b,!(b==1||b==2)⟩]⟩):=by unfold Mo.gc;rw[v];simp[j,l]
    rw[m]
    by_cases u:b=1
    ·have r:(!(b==1||b==2))=false:=by rw[u];rfl
     rw[r];refine(Ot h g f i x q a b e j l u).mono ?_;exact ud
    ·by_cases t:b=2
     ·have r:(!(b==1||b==2))=false:=by rw[t];rfl
      rw[r];refine(akh h g f i x q a b e j l t).mono ?_;exact ud
     ·have r:(!(b==1||b==2))=true:=by simp[u,t]
      rw[r];refine(aki h g f i x q a b e j l u t).mono ?_;exact ud
  ·refine(apQ h g f i x q a b e j).mono ?_;rintro s n ⟨rfl,p⟩;have m:c.gc i a b e=(1,c):=by unfold Mo.gc;rw[v];simp[j]
   rw[m];exact⟨rfl,A.same p⟩
end
def rr {a:Int}{b:PS}:(c.Y2 a b=none/\(c.ro a=none\/∃(d:Nat)(x:Ro),a=d/\c.PL[d]?=some x/\c.ro a=some x/\fC b x.cs=none)) \/
  ∃(d:Nat)(x:Ro)(g:Nat)(e:Ce),a=d/\c.PL[d]?=some x/\c.ro a=some x/\fC b x.cs=some g/\x.cs[g]?=some e/\c.Y2 a b=some e:=by
 rcases QC c a with ⟨m,_⟩|⟨d,x,rfl,l,f⟩
 ·exact .inl ⟨by unfold Mo.Y2;rw[m];rfl,.inl m⟩
 ·rcases Wq (λe=>ZO b e.name) x.cs with ⟨j,i⟩|⟨g,e,j,i,n,_⟩
  ·exact .inl ⟨by unfold Mo.Y2;rw[f];exact i,.inr ⟨d,x,rfl,l,f,j⟩⟩
  ·exact .inr ⟨d,x,g,e,rfl,l,f,j,i,by unfold Mo.Y2;rw[f];exact n⟩
def DN {a:Int}{d:PS}:(c.gQ a d=none/\(c.ob a=none\/∃(b:Nat)(x:Ob),a=b/\c.objs[b]?=some x/\c.ob a=some x/\fP d x.ps=none)) \/
  ∃(b:Nat)(x:Ob)(g:Nat)(e:Pr),a=b/\c.objs[b]?=some x/\c.ob a=some x/\fP d x.ps=some g/\x.ps[g]?=some e/\c.gQ a d=some e:=by
 rcases SY c a with ⟨m,_⟩|⟨b,x,rfl,l,f⟩
 ·exact .inl ⟨by unfold Mo.gQ;rw[m];rfl,.inl m⟩
 ·rcases Wq (λe=>ZO d e.name) x.ps with ⟨j,i⟩|⟨g,e,j,i,n,_⟩
  ·exact .inl ⟨by unfold Mo.gQ;rw[f];exact i,.inr ⟨b,x,rfl,l,f,j⟩⟩
  ·exact .inr ⟨b,x,g,e,rfl,l,f,j,i,by unfold Mo.gQ;rw[f];exact n⟩
def atZ (h:QM H R w c)(q:c.Small K)(p:K<=1000000000)(d:Int)(a:PS)(b:Va) :
  PN 198 #[hP H,Ph d,PI a,vA b] w λm e=>m=PY (Vg (c.start d a b).1)/\QM H R e (c.start d a b).2/\Qv Th H w e:=by
 have D:=h;obtain⟨z,o,C,B,h⟩:=h
 rcases rr (c:=c) (a:=d) (b:=a) with ⟨v,i⟩|⟨g,x,s,l,rfl,u,n,f,r,_⟩
 ·refine(MD h q p d a b v).mono ?_;rintro m e ⟨rfl,t⟩;have j:c.start d a b=(7,c):=by
   unfold Mo.start
   rcases i with i|⟨g,x,rfl,_,n,f⟩
   ·rw[i]
   ·rw[n];simp only[f]
  rw[j];exact⟨rfl,D.same t⟩
 ·refine(akd h q p g x u a b s l f r).mono ?_;rintro m e ⟨rfl,t,A⟩;have j:c.start g a b=(0,c.TJ g ⟨x.outer,x.gf,x.cs.set s ⟨l.name,b,l.kind,true⟩⟩):=by unfold Mo.start;rw[n];simp only[f,r,iU]
  rw[j];exact⟨rfl,⟨z,o,C,B,t⟩,A⟩
section
variable (h:QM H R w c)(j:c.Ok)(au:c.Small K)(b:K<=1000000000)
include h j au b
def Cs (aM:Int)(a:PS) :
  PN 315 #[hP H,Ph aM,PI a] w λg d=>g=PY (PD (c.cut aM a).1)/\QM H R d (c.cut aM a).2/\Qv Th H w d:=by
 have r:=h;obtain⟨z,o,C,B,h⟩:=h
 rcases DN (c:=c) (a:=aM) (d:=a) with ⟨u,T⟩|⟨l,x,s,m,rfl,q,i,e,p,A⟩
 ·refine(axG h au b aM a u).mono ?_;rintro g d ⟨rfl,n⟩;have f:c.cut aM a=(true,c):=by
   unfold Mo.cut
   rcases T with T|⟨l,x,rfl,_,i,e⟩
   ·rw[T]
   ·rw[i];simp only[e]
  rw[f];exact⟨rfl,r.same n⟩
 ·
  cases b0:m.fixed with
  |true=>
   refine(S5 h au b l a A b0).mono ?_;rintro g d ⟨rfl,n⟩;have f:c.cut l a=(false,c):=by unfold Mo.cut;rw[i];simp only[e,p,b0,hq]
   rw[f];exact⟨rfl,r.same n⟩
  |false=>
   refine(axH h au b l x q a s m e p b0 (j.up l x q)).mono ?_;rintro g d ⟨rfl,⟨E,t⟩,D⟩;have f:c.cut l a=(true,c.Ux l ⟨x.code,x.ps.eraseIdx s⟩):=by unfold Mo.cut;rw[i];simp[e,p,b0]
   rw[f];exact⟨rfl,⟨z,o,E,B,t⟩,D⟩
def axR (d:Int)(a:PS) :
  PN 297 #[hP H,Ph d,PI a] w λn g=>n=PY (PD (c.drop d a).1)/\QM H R g (c.drop d a).2/\Qv Th H w g:=by
 have r:=h;obtain⟨z,o,C,B,h⟩:=h
 rcases rr (c:=c) (a:=d) (b:=a) with ⟨e,_⟩|⟨l,x,s,m,rfl,q,D,p,A,e⟩
 ·have f:c.drop d a=c.cut (c.SX d) a:=by unfold Mo.drop;rw[e]
  rw[f];exact ang h au b d a e _ _ (λW i=>Cs (r.fQ i) j au b _ a)
 ·by_cases i:m.kind=4
  ·refine(Na h au b l x q a s m p A i (j.uc l x q)).mono ?_;rintro n g ⟨rfl,⟨E,t⟩,u⟩;have f:c.drop l a=(true,c.TJ l ⟨x.outer,x.gf,x.cs.eraseIdx s⟩):=by unfold Mo.drop;rw[e,D];simp[p,i]
   rw[f];exact⟨rfl,⟨z,o,C,E,t⟩,u⟩
  ·refine(Pe h au b l a e i).mono ?_;rintro n g ⟨rfl,t⟩;have f:c.drop l a=(false,c):=by unfold Mo.drop;rw[e];simp[i]
   rw[f];exact⟨rfl,r.same t⟩
end
section
variable (h:QM H R w c)(e:c.Small K)(d:K<=1000000000)
include h e d
def uY (g:Int)(a:PS)(b:Va) :
  PN 267 #[hP H,Ph g,PI a,vA b] w λs l=>s=PY (Vg (c.write g a b).1)/\QM H R l (c.write g a b).2/\Qv Th H w l:=by
 have D:=h;obtain⟨z,o,C,B,h⟩:=h
 cases hhas:c.has g a with
 |false=>
  refine(W0 h e d g a b hhas).mono ?_;rintro s l ⟨rfl,r⟩;have f:c.write g a b=(7,c):=by unfold Mo.write;rw[hhas];rfl
  rw[f];exact⟨rfl,D.same r⟩
 |true=>
  rcases rr (c:=c) (a:=g) (b:=a) with ⟨p,_⟩|⟨j,x,q,i,rfl,v,E,m,A,p⟩
  ·have I:(c.gQ (c.SX g) a).isSome=true:=by
    unfold Mo.has at hhas;rw[p] at hhas;simpa using hhas
   rcases DN (c:=c) (a:=c.SX g) (d:=a) with ⟨N,_⟩|⟨L,y,q,n,F,O,E,m,M,_⟩
   ·rw[N] at I;cases I
   ·refine(TX h e d g a b p L y F O q n m M).mono ?_;rintro s l ⟨rfl,t,u⟩;have f:c.write g a b=(0,c.Ux L ⟨y.code,y.ps.set q ⟨n.name,b,n.fixed⟩⟩):=by
     unfold Mo.write Mo.put;rw[hhas,fY rfl,p];simp only[E,m,M];rw[F,iU]
    rw[f];exact⟨rfl,⟨z,o,C,B,t⟩,u⟩
  ·
   cases n:i.ready with
   |false=>
    refine(ahU h e d j x v a b q i m A n).mono ?_;rintro s l ⟨rfl,r⟩;have f:c.write j a b=(6,c):=by unfold Mo.write;rw[hhas,fY rfl,p];simp[n]
    rw[f];exact⟨rfl,D.same r⟩
   |true=>
    by_cases t:i.kind=2
    ·refine(ahV h e d j x v a b q i m A n t).mono ?_;rintro s l ⟨rfl,r⟩;have f:c.write j a b=(1,c):=by unfold Mo.write;rw[hhas,fY rfl,p];simp[n,t]
     rw[f];exact⟨rfl,D.same r⟩
    ·by_cases u:i.kind=3
     ·refine(X7 h e d j x v a b q i m A n u).mono ?_;rintro s l ⟨rfl,r⟩;have f:c.write j a b=(5,c):=by unfold Mo.write;rw[hhas,fY rfl,p];simp[n,u]
      rw[f];exact⟨rfl,D.same r⟩
     ·refine(K0 h e d j x v a b q i m A n t u).mono ?_;rintro s l ⟨rfl,F,I⟩;have f:c.write j a b=(0,c.TJ j ⟨x.outer,x.gf,x.cs.set q ⟨i.name,b,i.kind,i.ready⟩⟩):=by unfold Mo.write;rw[hhas,fY rfl,p];simp[n,t,u,E,m]
      rw[f];exact⟨rfl,⟨z,o,C,B,F⟩,I⟩
def wv (g a:Int)(u:g = -1\/(c.ro g).isSome=true)(q:a = -1\/(c.ob a).isSome=true) :
  PN 105 #[hP H,Ph g,Ph a] w λD p=>D=PY (Ph (c.PL.length:Int))/\QM H R p (c.scope g a)/\Qv Th H w p:=by
 obtain⟨z,o,C,B,h⟩:=h;have v:c.ro (-1)=none:=rfl;have A:c.ob (-1)=none:=rfl
 rcases QC c g with ⟨t,_⟩|⟨f,x,rfl,r,s⟩
 ·have E:g = -1:=u.resolve_right (by rw[t];simp)
  subst E
  rcases SY c a with ⟨m,_⟩|⟨b,y,rfl,j,n⟩
  ·have l:a = -1:=q.resolve_right (by rw[m];simp)
   subst l;exact apv h e d
  ·have i:c.scope (-1) b=⟨c.objs,c.PL++[⟨-1,b,[]⟩]⟩:=by unfold Mo.scope;rw[v,n];rfl
   rw[i];exact apy h e d b y j
 ·rcases SY c a with ⟨m,_⟩|⟨b,y,rfl,j,n⟩
  ·have l:a = -1:=q.resolve_right (by rw[m];simp)
   subst l;have i:c.scope f (-1)=⟨c.objs,c.PL++[⟨f,-1,[]⟩]⟩:=by unfold Mo.scope;rw[s,A];rfl
   rw[i];exact apw h e d f x r
  ·have i:c.scope f b=⟨c.objs,c.PL++[⟨f,b,[]⟩]⟩:=by unfold Mo.scope;rw[s,n];rfl
   rw[i];exact apz h e d f x r b y j
def Jm (b:Int)(a:PS):PN 55 #[hP H,Ph b,PI a] w λg f=>g=PY (PD (c.has b a))/\PG w f:=by
 obtain⟨z,o,C,B,h⟩:=h;exact ZE h e d b a
def L9 (b:Int)(a:PS):PN 124 #[hP H,Ph b,PI a] w λg f=>g=PY (.tuple #[qy (c.gQ b a),PD (c.gQ b a).isSome])/\PG w f:=by
 obtain⟨z,o,C,B,h⟩:=h;exact j4 h e d b a
def RB (b:Int)(a:PS):PN 353 #[hP H,Ph b,PI a] w λg f=>g=PY (Ph (c.kindOf b a))/\PG w f:=by
 obtain⟨z,o,C,B,h⟩:=h;exact te h e d b a
end
section
variable (h:QM H R w c)
include h
def y4 (a:Int):PN 209 #[hP H,Ph a] w λd b=>d=PY (Ph (c.gA a))/\b=w:=by
 obtain⟨z,o,C,B,h⟩:=h;exact Zj h a
def Jc (a:Int):PN 125 #[hP H,Ph a] w λd b=>d=PY (Ph (c.SX a))/\b=w:=by
 obtain⟨z,o,C,B,h⟩:=h;exact y5 h a
def Pk (a:Int):PN 252 #[hP H,Ph a] w λd b=>d=PY (Ph (c.hJ a))/\b=w:=by
 obtain⟨z,o,C,B,h⟩:=h;exact FD h a
def uG (e:c.Small K)(d:K<=1000000000)(a:Int) :
  PN 49 #[hP H,Ph a] w λf b=>f=PY (Ph c.objs.length)/\QM H R b (c.Qo a)/\Qv Th H w b:=by
 obtain⟨z,o,C,B,h⟩:=h;exact OO h e d a
end
end
section
variable {α:Type}{b:α->PS}{a:List α}
include α b a
def xo {f:Nat}{i j:α}(h:iD b a)(k:a[f]?=some i)(o:b j=b i):iD b (a.set f j):=by
 have m:∀(c:Nat) e,(a.set f j)[c]?=some e->∃g,a[c]?=some g/\b e=b g:=λc e d=>by
  by_cases n:f=c
  ·subst n;have u:f<a.length:=(gs.1 k).1;rw[hW u] at d;cases d;exact⟨i,k,o⟩
  ·rw[h8 n] at d;exact⟨e,d,rfl⟩
 intro c l e s d t p;obtain⟨g,w,q⟩:=m c e d;obtain⟨v,z,r⟩:=m l s t;exact h c l g v w z (by rw[<-q,<-r];exact p)
def HT {f:α}(h:iD b a)(l:∀c ∈ a,(b c).toList≠(b f).toList):iD b (a++[f]):=by
 have o:∀(c:Nat) e,(a++[f])[c]?=some e->(c<a.length/\a[c]?=some e)\/(c=a.length/\e=f):=λc e d=>by
  by_cases k:c<a.length
  ·rw[g6 k] at d;exact .inl ⟨k,d⟩
  ·rw[g5 Pv] at d;have p:=(gs.1 d).1;simp at p;have:c=a.length:=Pv;subst this;simp at d;exact .inr ⟨rfl,d.symm⟩
 intro c n e i d q g
 rcases o c e d with ⟨_,m⟩|⟨r,rfl⟩ <;> rcases o n i q with ⟨_,j⟩|⟨s,rfl⟩
 ·exact h c n e i m j g
 ·exact absurd g (l e (gC m))
 ·exact absurd g.symm (l i (gC j))
 ·omega
def AF {i:Nat}(h:iD b a):iD b (a.eraseIdx i):=by
 intro j k f g c d e;rw[List.getElem?_eraseIdx] at c d
 split at c <;> split at d
 all_goals
  have:=h _ _ f g c d e;omega
end
def axT {c:PS}{b:List Pr}(h:fP c b=none):∀a ∈ b,a.name.toList≠c.toList:=λa d=>by
 have:=jL.1 h a d;simpa[ZO] using this
def P3 {c:PS}{b:List Ce}(h:fC c b=none):∀a ∈ b,a.name.toList≠c.toList:=λa d=>by
 have:=jL.1 h a d;simpa[ZO] using this
def rL {α:Type}{c:List α}{a b:Nat}{x y:α}(h:(c.set a x)[b]?=some y):(a=b/\y=x/\a<c.length)\/c[b]?=some y:=by
 by_cases d:a=b
 ·subst d;have e:a<c.length:=by have:=(gs.1 h).1;simpa using this
  rw[hW e] at h;cases h;exact .inl ⟨rfl,rfl,e⟩
 ·rw[h8 d] at h;exact .inr h
def Mo.Small.mono {c:Mo}{e d:Nat}(h:c.Small e)(a:e<=d):c.Small d:=
 ⟨gr h.o a,gr h.r a,λx b=>gr (h.ps x b) a,λx b=>gr (h.cs x b) a⟩
structure Mo.Go (M:Mo)(k:Nat):Prop where
 ok:M.Ok
 sm:M.Small k
def Mo.Go.up {a:Mo}{c b:Nat}(h:a.Go c)(d:c<=b):a.Go b:=⟨h.ok,h.sm.mono d⟩
def Mo.Go.Ux {e:Mo}{d l:Nat}{b:Ob}(h:e.Go d)(f:iD Pr.name b.ps)(g:b.ps.length<=d+1):(e.Ux l b).Go (d+1):=by
 refine⟨⟨h.ok.out,λc y a=>?_,λc y a=>?_,h.ok.uc⟩,⟨?_,gR h.sm.r,λy aZ=>?_,λy aZ=>gR (h.sm.cs y aZ)⟩⟩
 ·have:=h.ok.obj c y a;simpa[Mo.Ux] using this
 ·rcases rL a with ⟨_,rfl,_⟩|a
  ·exact f
  ·exact h.ok.up c y a
 ·have:=h.sm.o;simp[Mo.Ux];omega
 ·rcases iq aZ with aZ|rfl
  ·exact gR (h.sm.ps y aZ)
  ·exact g
def Mo.Go.TJ {d:Mo}{e l:Nat}{x b:Ro}(h:d.Go e)(bO:d.PL[l]?=some x)(g:b.outer=x.outer)(f:b.gf=x.gf)(i:iD Ce.name b.cs)(j:b.cs.length<=e+1):(d.TJ l b).Go (e+1):=by
 refine⟨⟨λc y a=>?_,λc y a=>?_,h.ok.up,λc y a=>?_⟩,⟨gR h.sm.o,?_,λy aZ=>gR (h.sm.ps y aZ),λy aZ=>?_⟩⟩
 ·rcases rL a with ⟨rfl,rfl,_⟩|a
  ·rw[g];exact h.ok.out l x bO
  ·exact h.ok.out c y a
 ·rcases rL a with ⟨rfl,rfl,_⟩|a
  ·rw[f];exact h.ok.obj l x bO
  ·exact h.ok.obj c y a
 ·rcases rL a with ⟨_,rfl,_⟩|a
  ·exact i
  ·exact h.ok.uc c y a
 ·have:=h.sm.r;simp[Mo.TJ];omega
 ·rcases iq aZ with aZ|rfl
  ·exact gR (h.sm.cs y aZ)
  ·exact j
section
variable {a:Mo}{c:Nat}(h:a.Go c)(aM:Int)(b:PS)
include a c h aM b
def Mo.Go.put (v:Va)(fx:Bool):(a.put aM b v fx).2.Go (c+1):=by
 unfold Mo.put
 rcases SY a aM with ⟨i,_⟩|⟨l,x,rfl,f,j⟩
 ·rw[i];exact h.up (gw _)
 ·rw[j];have n:=h.sm.ps x (gC f);have e:=h.ok.up l x f
  cases d:fP b x.ps with
  |none=>
   simp only[d];exact h.Ux (HT e (axT d)) SC
  |some k=>
   simp only[d]
   cases g:x.ps[k]? with
   |none=>exact h.up (gw _)
   |some m=>exact h.Ux (xo e g rfl) SC
def Mo.Go.cut:(a.cut aM b).2.Go (c+1):=by
 unfold Mo.cut
 rcases SY a aM with ⟨g,_⟩|⟨l,x,rfl,e,i⟩
 ·rw[g];exact h.up (gw _)
 ·rw[i];have k:=h.sm.ps x (gC e);have f:=h.ok.up l x e
  cases d:fP b x.ps with
  |none=>simp only[d];exact h.up (gw _)
  |some j=>
   simp only[d]
   cases n:x.ps[j]? with
   |none=>exact h.up (gw _)
   |some m=>
    simp only
    split
    ·exact h.up (gw _)
    ·exact h.Ux (AF f) (by rw[jr];split <;> omega)
end
section
variable {b:Mo}{d:Nat}(h:b.Go d)(c:Int)(a:PS)
include b d h c a
def Mo.Go.gc (k:Int)(v:Va):(b.gc c a k v).2.Go (d+1):=by
 unfold Mo.gc
 rcases QC b c with ⟨i,_⟩|⟨l,x,rfl,e,j⟩
 ·rw[i];exact h.up (gw _)
 ·rw[j];have n:=h.sm.cs x (gC e);have g:=h.ok.uc l x e;simp only
  split
  ·exact h.up (gw _)
  ·
   cases f:fC a x.cs with
   |some o=>exact h.up (gw _)
   |none=>
    simp only[iU];exact h.TJ e rfl rfl (HT g (P3 f)) SC
def Mo.Go.start (v:Va):(b.start c a v).2.Go (d+1):=by
 unfold Mo.start
 rcases QC b c with ⟨j,_⟩|⟨l,x,rfl,e,k⟩
 ·rw[j];exact h.up (gw _)
 ·rw[k];have o:=h.sm.cs x (gC e);have g:=h.ok.uc l x e
  cases f:fC a x.cs with
  |none=>simp only[f];exact h.up (gw _)
  |some n=>
   simp only[f]
   cases i:x.cs[n]? with
   |none=>exact h.up (gw _)
   |some m=>
    simp only[iU];exact h.TJ e rfl rfl (xo g i rfl) SC
def Mo.Go.write (v:Va):(b.write c a v).2.Go (d+1):=by
 unfold Mo.write
 split
 ·rcases rr (c:=b) (a:=c) (b:=a) with ⟨f,_⟩|⟨l,x,o,m,rfl,e,k,g,j,f⟩
  ·rw[f];exact h.put _ a v false
  ·have n:=h.sm.cs x (gC e);have i:=h.ok.uc l x e;rw[f];simp only[k,g,iU]
   split
   ·exact h.up (gw _)
   ·split
    ·exact h.up (gw _)
    ·split
     ·exact h.up (gw _)
     ·exact h.TJ e rfl rfl (xo i j rfl) SC
 ·exact h.up (gw _)
def Mo.Go.drop:(b.drop c a).2.Go (d+1):=by
 unfold Mo.drop
 rcases rr (c:=b) (a:=c) (b:=a) with ⟨f,_⟩|⟨l,x,k,m,rfl,e,j,g,o,f⟩
 ·rw[f];exact h.cut _ a
 ·have n:=h.sm.cs x (gC e);have i:=h.ok.uc l x e;rw[f];simp only[j,g,iU]
  split
  ·exact h.up (gw _)
  ·exact h.TJ e rfl rfl (AF i) (by show (x.cs.eraseIdx k).length<=_;rw[jr];split <;> omega)
end
def BU {α:Type}(a:α->PS):iD a []:=λd e b c h=>by simp at h
def Mo.Go.Qo {b:Mo}{d:Nat}(h:b.Go d)(m:Int):(b.Qo m).Go (d+1):=by
 refine⟨⟨h.ok.out,λl x a=>?_,λl x a=>?_,h.ok.uc⟩,⟨?_,gR h.sm.r,λx a=>?_,λx a=>gR (h.sm.cs x a)⟩⟩
 ·rcases h.ok.obj l x a with c|⟨e,c,f⟩
  ·exact .inl c
  ·exact .inr ⟨e,c,by simp[Mo.Qo];omega⟩
 ·rcases im l b.objs.length with bO|bO
  ·have c:(b.objs++[(⟨m,[]⟩:Ob)])[l]?=some x:=a;rw[g6 bO] at c;exact h.ok.up l x c
  ·have c:(b.objs++[(⟨m,[]⟩:Ob)])[l]?=some x:=a;have e:=gC (by rw[g5 bO] at c;exact c)
   rw[gn.1 e];exact BU _
 ·have:=h.sm.o;simp[Mo.Qo];omega
 ·rcases gB.1 a with a|a
  ·exact gR (h.sm.ps x a)
  ·rw[gn.1 a];simp
def Mo.Go.scope {b:Mo}{j:Nat}(h:b.Go j)(c aM:Int):(b.scope c aM).Go (j+1):=by
 have i:∀(l:Nat)(x:Ro),(b.scope c aM).PL[l]?=some x->b.PL[l]?=some x\/(l=b.PL.length/\x=⟨if (b.ro c).isSome then c else -1,if (b.ob aM).isSome then aM else -1,[]⟩):=λl x a=>by
  have d:(b.PL++[(⟨if (b.ro c).isSome then c else -1,if (b.ob aM).isSome then aM else -1,[]⟩:Ro)])[l]?=some x:=a
  rcases im l b.PL.length with bO|bO
  ·rw[g6 bO] at d;exact .inl d
  ·rw[g5 bO] at d;have k:=(gs.1 d).1;simp at k;exact .inr ⟨by omega,gn.1 (gC d)⟩
 refine⟨⟨λl x a=>?_,λl x a=>?_,h.ok.up,λl x a=>?_⟩,⟨gR h.sm.o,?_,λx a=>gR (h.sm.ps x a),λx a=>?_⟩⟩
 ·rcases i l x a with a|⟨rfl,rfl⟩
  ·exact h.ok.out l x a
  ·show -1<=(if (b.ro c).isSome=true then c else -1)/\(if (b.ro c).isSome=true then c else -1)<(b.PL.length:Int)
   rcases QC b c with ⟨f,_⟩|⟨e,y,rfl,aZ,g⟩
   ·rw[f];simp;omega
   ·rw[g];have:=(gs.1 aZ).1;simp;omega
 ·rcases i l x a with a|⟨rfl,rfl⟩
  ·exact h.ok.obj l x a
  ·show (if (b.ob aM).isSome=true then aM else -1) = -1\/∃e:Nat,(if (b.ob aM).isSome=true then aM else -1)=e/\e<b.objs.length
   rcases SY b aM with ⟨f,_⟩|⟨e,y,rfl,aZ,g⟩
   ·rw[f];exact .inl rfl
   ·rw[g];exact .inr ⟨e,rfl,(gs.1 aZ).1⟩
 ·rcases i l x a with a|⟨rfl,rfl⟩
  ·exact h.ok.uc l x a
  ·exact BU _
 ·have:=h.sm.r;simp[Mo.scope];omega
 ·rcases gB.1 a with a|a
  ·exact gR (h.sm.cs x a)
  ·rw[gn.1 a];simp
section
variable {H:Nat}{R:List PO}{w k:Py}{c:Mo}{z o:PO}{ak B:List PO}{K:Nat}
def apT (h:HP H R w c z o ak B)(au:c.Small K)(a:K<=1000000000)(l:Nat)(x:Ro)(bO:c.PL[l]?=some x)(ax:Int)(af:ax<0\/(c.objs.length:Int)<=ax) :
  PN 105 #[PZ H 0,Ph (l:Int),Ph ax] w λd C=>d=PY (Ph (c.PL.length:Int))/\QM H R C ⟨c.objs,c.PL++[⟨(l:Int),(-1),[]⟩]⟩/\Qv Th H w C:=by
 obtain⟨s,u,b0,r,aJ⟩:=h.c;have D:=Y au.r;have aE:=Y aJ;have aI:PG w (w.alloc (.cells #[Ph (l:Int),Ph ax,RF] 198)):=QK;obtain⟨aX,aH⟩:=qP (h.fQ aI) l x bO;clear bO;have aD:=ZB z _ (RH h.ob.row) ax (by simpa using af) (w.alloc (.cells #[Ph (l:Int),Ph ax,RF] 198));clear af;exact Bg
def VC (h:QM H R w c)(i:c.Small K)(f:K<=1000000000)(d a:Int)(g:(c.ro d).isSome=true) :
  PN 105 #[hP H,Ph d,Ph a] w λp e=>p=PY (Ph (c.PL.length:Int))/\QM H R e (c.scope d a)/\Qv Th H w e:=by
 rcases QC c d with ⟨l,_⟩|⟨b,x,rfl,m,j⟩
 ·rw[l] at g;cases g
 ·rcases SY c a with ⟨s,q⟩|⟨r,y,rfl,u,t⟩
  ·have n:c.scope b a=⟨c.objs,c.PL++[⟨b,-1,[]⟩]⟩:=by unfold Mo.scope;rw[j,s];rfl
   rw[n];obtain⟨z,o,ak,B,h⟩:=h;exact apT h i f b x m a q
  ·exact wv h i f b r (f4 (by rw[j];rfl)) (f4 (by rw[t];rfl))
