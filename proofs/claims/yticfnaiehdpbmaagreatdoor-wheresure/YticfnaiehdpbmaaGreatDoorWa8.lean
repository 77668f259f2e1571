import Derived.Test.YticfnaiehdpbmaaGreatDoorWa7
import Derived.Test.YticfnaiehdpbmaaGreatDoorWa5
import Derived.Lib.ItoaNum
set_option maxRecDepth 100000
set_option maxHeartbeats 0
set_option linter.all false
namespace Go.Proofs.YticfnaiehdpbmaaGreatDoor
open Go.RowKit Go.Proofs.Tryz
def QG {α β:Type}{b:PR α}{c:α->Nat->PR β}{y:β}{d:Nat}(h:b.bind c=.ok y d):∃x a,b=.ok x a/\c x a=.ok y d:=by
 cases b with
 |ok x a=>exact⟨x,a,rfl,h⟩
 |ga e f=>cases h
 |out=>cases h
def qn {c:PS}:RN c≠15:=by
 unfold RN Sr
 cases d:hG.find? (λb=>decide (c=b.1)) with
 |none=>decide
 |some b=>
  have a:=iz d;simp only[hG,gE,jf,js] at a
  rcases a with rfl|rfl|rfl|rfl|rfl|rfl|rfl|rfl <;> decide
def ajd {g:List Tk}{c:Ut}{a:Int}{i:PS}{d e f:Nat}{b:Tr}(h:TU g c a i d e=.ok b f):b.kd=a:=by
 unfold TU at h;obtain⟨_,_,_,h⟩:=QG h;obtain⟨_,_,_,h⟩:=QG h
 cases h;rfl
def avV {f:List Tk}{b:Ut}{c g d e:Nat}{a:Tr}(h:nN f b c g d=.ok a e):a.kd≠15:=by
 unfold nN at h
 split at h
 ·unfold oA at h;obtain⟨_,_,_,h⟩:=QG h
  split at h
  ·
   cases h
  ·split at h
   ·exact uj
   ·obtain⟨_,_,_,h⟩:=QG h
    cases h;exact qn
 ·unfold n3 at h;obtain⟨_,_,_,h⟩:=QG h;obtain⟨_,_,_,h⟩:=QG h;rw[ajd h];decide
 ·unfold Rk at h;obtain⟨_,_,_,h⟩:=QG h;obtain⟨_,_,_,h⟩:=QG h;cases h
  show (6:Int)≠15
  decide
 ·obtain⟨_,_,_,h⟩:=QG h
  cases h;decide
 ·unfold Xd at h;obtain⟨_,_,_,h⟩:=QG h;obtain⟨_,_,_,h⟩:=QG h
  split at h
  ·obtain⟨_,_,_,h⟩:=QG h
   cases h;exact qn
  ·
   cases h;exact qn
 ·unfold UR at h;exact uj
 ·unfold XT at h
  split at h
  ·exact uj
  ·obtain⟨_,_,_,h⟩:=QG h
   cases h;exact qn
 ·unfold Wx at h;obtain⟨_,_,_,h⟩:=QG h;obtain⟨_,_,_,h⟩:=QG h;obtain⟨_,_,_,h⟩:=QG h;obtain⟨_,_,_,h⟩:=QG h
  split at h
  ·
   cases h
  ·
   cases h
   show (12:Int)≠15
   decide
def xF (c:List Tk):∀b,o6 (ig c b):=by
 intro b
 cases b with
 |zero=>intro d e g f h;cases h
 |succ b=>
  intro d e g f h i;have a:Si c (ig c b) d e=.ok g f:=h;unfold Si at a
  split at a
  ·exact absurd i (avV a)
  ·unfold nB at a;obtain⟨j,_,_,a⟩:=QG a;obtain⟨_,_,_,a⟩:=QG a
   cases a
   exact⟨j,[],rfl⟩
def Mk {d:gI}{w:Ut}(o:FC d w)(q:∃a,ka d.l a w):hC d 154 NV (Wx d.l w):=by
 intro m b j M a u h;unfold Wx at a
 cases c:Qx d.l mM j with
 |out=>rw[c] at a;exact absurd a.symm u
 |ga e f=>rw[c,Qy] at a;subst a;exact Xs m b j h e f c
 |ok x l=>
  rw[c,gj] at a
  cases g:Rk d.l w b l with
  |out=>rw[g] at a;exact absurd a.symm u
  |ga e f=>rw[g,Qy] at a;subst a;exact aKt o q m b j l h c e f g
  |ok s i=>
   rw[g,gj] at a;unfold qd at a
   by_cases k:fx d.l i=V4
   ·rw[fY k,jpZ] at a
    cases r:Qx d.l TT (i+1) with
    |out=>rw[r] at a;exact absurd a.symm u
    |ga e f=>rw[r,Qy] at a;subst a;exact ry o q m b j l h c s i g k e f (fU r)
    |ok I i2=>
     rw[r,gj,jpZ] at a
     cases t:gK d.l i2 with
     |out=>rw[t] at a;exact absurd a.symm u
     |ga e f=>rw[t,Qy] at a;subst a;exact ry o q m b j l h c s i g k e f (f4 ⟨i2,r,fU t⟩)
     |ok D A=>
      rw[t,gj,jpZ] at a
      cases v:Qx d.l U1 A with
      |out=>rw[v] at a;exact absurd a.symm u
      |ga e f=>rw[v,Qy] at a;subst a;exact ry o q m b j l h c s i g k e f (f4 ⟨i2,r,f4 ⟨D,A,t,fU v⟩⟩)
      |ok L B=>
       rw[v,gj,jpZ] at a
       cases z:Rk d.l w b B with
       |out=>rw[z] at a;exact absurd a.symm u
       |ga e f=>rw[z,Qy] at a;subst a;exact ry o q m b j l h c s i g k e f (f4 ⟨i2,r,f4 ⟨D,A,t,f4 ⟨B,v,z⟩⟩⟩)
       |ok E C=>
        rw[z,gj,gj] at a;unfold Xt at a
        by_cases n:fx d.l C=Tq
        ·rw[fY n,jpZ] at a
         cases p:Rk d.l w b (C+1) with
         |out=>rw[p] at a;exact absurd a.symm u
         |ga e f=>rw[p,Qy] at a;subst a;exact ald o q m b j l h c s i g k i2 r D A t B v E C z n e f p
         |ok F H=>
          rw[p,gj,gj,fT Qh] at a;subst a;exact Oz o q m b j l h c s i g k i2 r D A t B v E C z n F H p
        ·rw[fT n,gj,fT Qh] at a;subst a;exact asj o q m b j l h c s i g k i2 r D A t B v E C z n
   ·rw[fT k,gj] at a;unfold Xt at a
    by_cases n:fx d.l i=Tq
    ·rw[fY n,jpZ] at a
     cases p:Rk d.l w b (i+1) with
     |out=>rw[p] at a;exact absurd a.symm u
     |ga e f=>rw[p,Qy] at a;subst a;exact aol o q m b j l h c s i g k n e f p
     |ok F H=>
      rw[p,gj,gj,fT Qh] at a;subst a;exact Mv o q m b j l h c s i g k n F H p
    ·rw[fT n,gj,fY Qh] at a;subst a;exact Sd o q m b j l h c s i g k n
def aH0:WU 147:=λ_ _=>by kernel_rfl
def aH1:WU 148:=λ_ _=>by kernel_rfl
def M6:WU 149:=λ_ _=>by kernel_rfl
def aH3:WU 150:=λ_ _=>by kernel_rfl
def aH4:WU 151:=λ_ _=>by kernel_rfl
def LN:WU 152:=λ_ _=>by kernel_rfl
def Od:WU 153:=λ_ _=>by kernel_rfl
def XN:WU 154:=λ_ _=>by kernel_rfl
def R6 {e:PS}{d:Nat}(h:Sr Vh e=some d):d<8:=by
 unfold Sr at h
 cases a:Vh.find? (λc=>decide (e=c.1)) with
 |none=>rw[a] at h;cases h
 |some c=>
  rw[a] at h;have b:=iz a;simp only[mD,he] at h;subst h;simp only[Vh,gE,jf,js] at b
  rcases b with rfl|rfl|rfl|rfl|rfl|rfl|rfl|rfl|rfl|rfl|rfl|rfl <;> decide
def BC {d:gI}{a:Py}{e:Nat}{b:PR Tr}{f:Ending}{c:Py}(h:Rt d a e (EV a.heap.size) b f c):Rt d a e (NV a.heap.size) b f c:=by
 cases b with
 |ok x m=>
  obtain⟨⟨l,k,g⟩,j,i⟩:=h;exact⟨⟨l,k,g.nv⟩,j,i⟩
 |ga g i=>exact h
 |out=>exact h
def M4 {l:gI}{m:Ut}(j:FC l m)(p:∃a,ka l.l a m)(r:o6 m):hC l 160 NV (Si l.l m):=by
 intro i c a d g b h;unfold Si at g
 cases f:Sr Vh (fx l.l a) with
 |none=>rw[f] at g;exact NZ j i c a d g b f h
 |some k=>
  rw[f] at g;have w:=R6 f;have n:(Qn l.l a).kd≠6:=λs=>by
   have:fx l.l a=PE:=by unfold fx;rw[s];rfl
   have v:Sr Vh PE=none:=by decide
   rw[this,v] at f;cases f
  have u:k=0\/k=1\/k=2\/k=3\/k=4\/k=5\/k=6\/k=7:=Pv
  rcases u with rfl|rfl|rfl|rfl|rfl|rfl|rfl|rfl
  ·exact X3 147 aH0 i c a d b 0 f rfl (λW e=>asi j W c a d n g b e) h
  ·exact X3 148 aH1 i c a d b 1 f rfl (λW e=>S8 j p r W c a d g b e) h
  ·exact X3 149 M6 i c a d b 2 f rfl (λW e=>(SI j p W c a d g b e).mono λt q o=>BC o) h
  ·exact X3 150 aH3 i c a d b 3 f rfl (λW e=>mg W c a d g b e) h
  ·exact X3 151 aH4 i c a d b 4 f rfl (λW e=>alb j W c a d n g b e) h
  ·exact X3 152 LN i c a d b 5 f rfl (λW e=>(wC j W c a d n g b e).mono λt q o=>BC o) h
  ·exact X3 153 Od i c a d b 6 f rfl (λW e=>YY j W c a d n g b e) h
  ·exact X3 154 XN i c a d b 7 f rfl (λW e=>Mk j p W c a d g b e) h
def arU (d:gI)(i:Ends d.l):∀c,FC d (ig d.l c):=by
 intro c
 induction c with
 |zero=>exact⟨λ_ _ _ f b a _=>absurd b.symm a,λ_ _ _ f b a _=>absurd b.symm a,λ_ _ _ _ _ _ f b a _=>absurd b.symm a,λ_ _ _ f b a _=>absurd b.symm a⟩
 |succ c e=>
  have g:∃m,ka d.l m (ig d.l c):=⟨c,vu i c⟩;exact⟨M4 e g (xF d.l c),aoi e,λj _ _ n k l f b a h=>asf e g j n k l f b a h,ala e (R3 e g (xF d.l c))⟩
def Wr (j:Nat)(b:Tr)(c:Nat)(a:Py)(h:QT (gz j) a b c)(k:b.count<=90000) :
  PN 35 #[Pm c] a λe i=>e=PY (Ph (b.count:Int))/\PG a i:=by
 have s:=X9;have m:QT (λx=>x≠a.heap.size) (a.alloc (.cells #[Ph 0] 3)) b c:=
  QT.fQ (I:=λx=>x≠a.heap.size) (λd _ f=>gy a _ d f) _ _ (QT.mono (λd _ f=>by omega) _ _ h)
 have r:pi a.heap.size 0 (a.alloc (.cells #[Ph 0] 3)):=⟨Pz _ _⟩;have l:=mO a.heap.size b.count b Qq c 0 _ m r Pv;clear h k;go_enter func35,ntmps35;go_wp2_with fail;refine cm l ?_;rintro e g ⟨rfl,p,q⟩;have o:g.cell? (Pn a.heap.size 0)=some (Ph (((0+b.count:Nat)):Int)):=by rw[cell_of p.gG];rfl
 rw[h3] at o;have n:PG a g:=(RV.alloc Qq (.cells #[Ph 0] 3)).trans ((q.mono Qh).below Qq);go_wp2;go_ret;exact⟨rfl,n⟩
inductive qi where
 |ok (t:Tr)
 |at (er:Int) (p:Nat)
 |bare
abbrev KK:Nat:=24100
def Tj (g f:List PS)(c:PS):qi:=
 if 3000<c.size then .bare
 else match Vw g f c (Qk TP c 0) [] with
  |.ga a b=>.at a b
  |.ok d=>match Wy d (ig d KK) with
   |.ga a b=>.at a b
   |.ok e _=>if 1500<e.count then .bare else .ok e
   |.out=>.bare
def qc (g:qi)(b:Py)(d:Ending)(a:Py):Prop:=
 match g with
 |.ok e=>∃c,d=PY (.tuple #[Pm c,.nilIface])/\QT (gz b.heap.size) a e c/\PG b a
 |.at e f=>∃c,d=PY (.tuple #[.pointer none,.iface 150 (PZ c 0)])/\a.heap[c]?=some (Qb #[Ph e,Ph (f:Int)] 152)/\b.heap.size<=c/\PG b a
 |.bare=>d=PY (.tuple #[.pointer none,.iface 34 (Ph 4)])/\PG b a
def Ts {c b:List PS}{g:PS}{e:Nat}{a f:Int}{i:PS}{d:Nat}(h:Xo c b g e=.tok a i f d):a≠6:=by
 unfold Xo at h
 split at h
 ·unfold Vy at h
  split at h
  ·
   cases h;decide
  ·split at h
   ·
    cases h
   ·
    cases h;decide
 ·split at h
  ·unfold rdNum at h
   split at h
   ·
    cases h
   ·split at h
    ·
     cases h
    ·split at h
     ·
      cases h
     ·
      cases h;decide
  ·split at h
   ·unfold rdStr at h
    split at h
    ·split at h
     ·
      cases h
     ·
      cases h;decide
    ·
     cases h
   ·unfold WT at h
    split at h
    ·
     cases h;decide
    ·
     cases h
def N7 (e c:List PS)(a:PS)(w:∀f ∈ c,1<=f.size):∀m b d l,a.size - b=m->b<=a.size->Vw e c a b d=.ok l ->
  ∃i,l=d++i++[⟨6,⟨#[]⟩,0,a.size⟩]/\(∀n ∈ i,n.kd≠6)/\i.length<=a.size - b:=by
 intro m
 induction m using Nat.strongRecOn with
 |ind m u=>
  intro b d l A C h
  by_cases j:b<a.size
  ·
   cases k:Xo e c a b with
   |ga f o=>rw[wJ e c a b d f o j k] at h;cases h
   |tok o q p f=>
    have r:=Xa e c a b o p q f j w k;rw[TN e c a b d o p q f j k r.1] at h;have z:=Vx TP a f;have s:=UA TP a f r.2;obtain⟨i,v,t,B⟩:=u (a.size - Qk TP a f) Pv (Qk TP a f) _ l rfl s h;refine⟨⟨o,q,p,b⟩::i,by rw[v];simp,λn g=>?_,by simp;omega⟩
    rcases gE.1 g with rfl|g
    ·exact Ts k
    ·exact t n g
  ·rw[Zy e c a b d j] at h;exact⟨[],by cases h;simp,λn g=>absurd g Qh,by simp⟩
def aoc {f c:List PS}{a:PS}(m:∀d ∈ c,1<=d.size){b:List Tk}(h:Vw f c a (Qk TP a 0) []=.ok b):Ends b/\0<b.length/\b.length<=a.size+1:=by
 obtain⟨j,g,k,n⟩:=N7 f c a m _ (Qk TP a 0) [] b rfl (UA TP a 0 (ge _)) h;rw[hy] at g;subst g;refine⟨λi l=>?_,by simp,by simp;omega⟩
 rw[gg,hZ] at l;unfold Qn;rw[hk,gg,hZ]
 by_cases d:i<j.length
 ·rw[g6 d,gq d];constructor
  ·intro e;exact absurd e (k _ (gU d))
  ·intro e;omega
 ·have e:i=j.length:=Pv;subst e;rw[g5 Qq,iy];simp
section
variable {a:List Tk}{i:Nat}{d:Ut}(j:ka a i d)
include a i d j
def Ni (p:8 * a.length+3<i):∀c e b,b<a.length->a.length - b<c->SQ a d c e b≠.out:=by
 intro c
 induction c with
 |zero=>intro e b g m;omega
 |succ c n=>
  intro e b g m;unfold SQ
  split
  ·nofun
  ·have k:=SS (a:=a) (b:=0) ((j.st (0+1) b g).imp (q':=True) (λ_=>by omega))
   cases f:QJ a d.st 0 b with
   |out=>exact absurd f (k.1 trivial)
   |ga l o=>rw[PR.bind];nofun
   |ok o l=>
    have:=k.2 o l f;exact n _ l this.2 Pv
def aiX:∀e g b f c,b<a.length->SQ a d e g b=.ok f c->c<a.length:=by
 intro e
 induction e with
 |zero=>intro g b f c _ h;cases h
 |succ e m=>
  intro g b f c k h;unfold SQ at h
  split at h
  ·
   cases h;exact k
  ·obtain⟨o,l,n,h⟩:=QG h;exact m _ l _ _ ((SS (a:=a) (b:=0) (j.st (0+1) b k)).2 o l n).2 h
end
def Iy {a:List Tk}(g:Ends a)(d:0<a.length)(l:a.length<=3001):Wy a (ig a KK)≠.out/\∀e b,Wy a (ig a KK)=.ok e b->b<a.length:=by
 have c:=vu g KK;have j:=Ni c (by unfold KK;omega) (ig a KK).fuel [] 0 d (by rw[c.fuel];unfold KK;omega)
 unfold Wy;constructor
 ·
  cases f:SQ a (ig a KK) (ig a KK).fuel [] 0 with
  |out=>exact absurd f j
  |ga k m=>nofun
  |ok i b=>nofun
 ·intro e b h;obtain⟨i,k,f,h⟩:=QG h;cases h;exact aiX c _ _ _ _ _ d f
structure kM (w:Py):Prop where
 jK:∃t fr,w.heap[4]?=some (.cells W9 t fr)
 hB:∃t fr,w.heap[3]?=some (.cells XZ t fr)
def kM.fQ {w w':Py}(h:kM w)(a:PG w w'):kM w':=by
 obtain⟨⟨e,d,c⟩,⟨f,g,b⟩⟩:=h;exact⟨⟨e,d,by rw[a.block _ (fR c)];exact c⟩,⟨f,g,by rw[a.block _ (fR b)];exact b⟩⟩
def MJ (a:Py):PG a (RW a):=QK.alloc Qh _
def LD (c:Py)(a:List Tk)(f d:Nat)(g:Array PO)(i:Ends a)(o:0<a.length)(p:a.length<=3001)(m:c.heap[f]?=some (Qb g 144))(u:a.length<=d/\d<=maxLen/\g.size=d * 4/\g.toList.take (a.length * 4)=SN a)(s:kM c) :
  PN 34 #[.slice (some (Pn f 0)) a.length d] c (rh (Wy a (ig a KK)) c):=by
 have k:=MJ c;have l:=s.fQ k;have n:=QP (RW c) a f d g i o p (by rw[k.block _ (fR m)];exact m) u l.jK l.hB
 have w:∀b:gI,b.l=a->FC b (ig b.l KK):=λb e=>arU b (by rw[e];exact i) KK
 have r:=(Iy i o p).1
 cases j:Wy a (ig a KK) with
 |out=>exact absurd j r
 |ga t v=>
  refine NW c a f d t v n λb W e q=>?_;exact FY
 |ok v t=>
  refine L0 c a f d v t n λb W e q=>?_;exact FY
section
variable (b:PS)(w:Py)
include b w
def ak1 (a:3000<b.size):PN 15 #[PI b] w (qc .bare w):=by
 have c:=aiY b w a;clear a;go_enter func15,ntmps15;go_wp2_with fail;refine cm c ?_;rintro d e ⟨rfl,rfl⟩;go_wp2_with fail;exact Uj (v:=.tuple #[Rz,.iface 34 (Ph 4)]) ⟨rfl,RV⟩
def Ma (e:Int)(f:Nat)(h:PN 33 #[PI b] w (tw (.ga e f) w)):PN 15 #[PI b] w (qc (.at e f) w):=by
 go_enter func15,ntmps15;go_wp2_with fail;refine cm h ?_;rintro k l ⟨c,rfl,d,a,g⟩;have j:=Y d;have i:=Y a;clear d a h;go_wp2_with fail;exact Uj (v:=.tuple #[Rz,.iface 150 (PZ c 0)]) ⟨c,rfl,j.out,i.out,g⟩
def aod (d:List Tk)(n:Int)(q:Nat)(h:PN 33 #[PI b] w (tw (.ok d) w))(H:0<d.length)(T:∀(W:Py)(f c:Nat)(e:Array PO),PG w W->W.heap[f]?=some (Qb e 144)->(d.length<=c/\c<=maxLen/\e.size=c * 4/\e.toList.take (d.length * 4)=SN d)->PN 34 #[.slice (some (Pn f 0)) d.length c] W (rh (.ga n q) W)) :
  PN 15 #[PI b] w (qc (.at n q) w):=by
 have t:=Y T;clear T;go_enter func15,ntmps15;go_wp2_with fail;refine cm h ?_;rintro u D ⟨v,rfl,C,a⟩
 rcases C.2 with F|⟨f,c,e,rfl,A,p,o,i,l,k⟩
 ·omega
 ·have z:=t.out D f c e a p ⟨o,i,l,k⟩;have g:=a;clear a A p o i l k h;go_wp2_with fail;refine cm z ?_;rintro u L ⟨m,rfl,a,j,s⟩;have E:=Y a;have r:=g.trans (s.mono g.size);have B:=Y (gr g.size j);clear a j;go_wp2_with fail;exact Uj (v:=.tuple #[Rz,.iface 150 (PZ m 0)]) ⟨m,rfl,E.out,B.out,r⟩
def arW (d:List Tk)(a:Tr)(af:Nat)(h:PN 33 #[PI b] w (tw (.ok d) w))(al:0<d.length)(s:a.count<=90000)(T:∀(W:Py)(j c:Nat)(f:Array PO),PG w W->W.heap[j]?=some (Qb f 144)->(d.length<=c/\c<=maxLen/\f.size=c * 4/\f.toList.take (d.length * 4)=SN d)->PN 34 #[.slice (some (Pn j 0)) d.length c] W (rh (.ok a af) W)) :
  PN 15 #[PI b] w (qc (if 1500<a.count then .bare else .ok a) w):=by
 have M:=Y T;have O:=Y s;obtain⟨F,n⟩:=xH ((if 1500<a.count then qi.bare else .ok a));rw[<-n.out];clear T s;go_enter func15,ntmps15;go_wp2_with fail;refine cm h ?_;rintro B p ⟨v,rfl,ad,i⟩
 rcases ad.2 with m|⟨j,c,f,rfl,U,E,D,q,t,r⟩
 ·omega
 ·have S:=M.out p j c f i E ⟨D,q,t,r⟩;clear U E D q t r h;go_wp2_with fail;refine cm S ?_;rintro B ak ⟨l,rfl,m,g⟩;have z:=i.trans (g.mono i.size);have N:=Wr p.heap.size a l ak m O.out;have ae:=Y i.size;clear g;go_wp2_with fail;refine cm N ?_;rintro B H ⟨rfl,A⟩;have C:=z.trans (A.mono z.size);have ah:QT (gz w.heap.size) H a l:=QT.mono (λu g _=>gr ae.out g) _ _ (QT.fQ (I:=gz p.heap.size) (λu _ X=>A.block u X) _ _ m)
  by_cases k:1500<a.count
  ·have e:F=.bare:=by rw[n.out,fY k]
   have o:=Y e;clear e;have L:(1500:Int)<(a.count:Int):=Pv;clear k;go_wp2_with fail;exact Uj (v:=.tuple #[Rz,.iface 34 (Ph 4)]) (by rw[o.out];exact⟨rfl,C⟩)
  ·have e:F=.ok a:=by rw[n.out,fT k]
   have o:=Y e;clear e;have L:¬ (1500:Int)<(a.count:Int):=Pv;clear k;go_wp2_with fail;exact Uj (v:=.tuple #[Pm l,RI]) (by rw[o.out];exact⟨l,rfl,ah,C⟩)
end
def jN (i f:List PS)(a:PS)(b:Py)(A:hK i f b)(r:∀n ∈ f,1<=n.size)(B:kM b):PN 15 #[PI a] b (qc (Tj i f a) b):=by
 unfold Tj
 by_cases l:3000<a.size
 ·rw[fY l];exact ak1 a b l
 ·rw[fT l];have d:=MY i f a b Pv A r
  cases k:Vw i f a (Qk TP a 0) [] with
  |ga m o=>rw[k] at d;exact Ma a b m o d
  |ok c=>
   rw[k] at d;obtain⟨p,j,H⟩:=aoc r k;have q:c.length<=3001:=Pv;obtain⟨C,v⟩:=Iy p j q;have g:=λ(W:Py) (n w:Nat) (z:Array PO) (u:PG b W) E D=>LD W c n w z p j q E D (B.fQ u);simp only
   cases e:Wy c (ig c KK) with
   |out=>exact absurd e C
   |ga m o=>rw[e] at g;exact aod a b c m o d j g
   |ok t s=>
    rw[e] at g;have F:=v t s e;have I:=LX (axA KK) e;exact arW a b c t s d j Pv g
section
variable {P:Program}{b4:Region.Mode}{bj:Array Oper}{Q:Exit->Act->Py->Prop}{S:Py->Prop}{O:Nat}
def Q9 (P:Program)(b4:Region.Mode)(bj:Array Oper)(Q:Exit->Act->Py->Prop)(S:Py->Prop)(O:Nat):Nat->Array Bool->Act->Py->Prop
 |0,listed,a,b=>Region.ready b4 bj listed=[]/\Q .normal a b
 |f+1,listed,a,b=>(Region.ready b4 bj listed=[]->Q .normal a b)/\∀c ∈ Region.ready b4 bj listed,wpOp P bj Q c (λe d=>((listed.setIfInBounds c true).getD O false=false->S d)/\Q9 P b4 bj Q S O f (listed.setIfInBounds c true) e d) a b
def B6:∀(a:Nat)(listed:Array Bool)(b:Act)(c:Py),Q9 P b4 bj Q S O a listed b c->wpAny P b4 bj Q a listed b c
 |0,_,_,_,h=>h
 |a+1,_,_,_,h=>⟨h.1,λg e=>wpOp_mono (λi d f=>B6 a _ i d f.2) (h.2 g e)⟩
def AEz {G:Prop}(h:G:=by
  have X:∀{listed:Array Bool}{a:Nat}{d:Oper},b ∈ Region.ready b4 bj listed->(∀c ∈ d.after,Region.binds b4 c=true->listed.getD c.on false=true)->∀c ∈ d.after,Region.binds b4 c=true->c.on≠b:=by
   intro listed a d e m c L I q;exact CQ
  intro k;exact(A).o):G:=h
def S1 {b:Nat}{i T:Oper}{M:PO}(u:bj[b]?=some i)(ae:bj[O]?=some T)(hsel:∀(a:Nat)(e:Oper) p g,bj[a]?=some e->e.op≠.select p g)(N:∀g r s,Q (.panic g) (r.put i.dst M) s->Q (.panic g) r s)(ah:b≠O)(af:∃c ∈ T.after,Region.binds b4 c=true/\c.on=b) :
  ∀(k:Nat)(listed:Array Bool)(r:Act)(s:Py),listed.getD O false=false ->
   (∀a d,bj[a]?=some d->a≠b->listed.getD a true=false->(∀c ∈ d.after,Region.binds b4 c=true->c.on≠b)->i.apart bj d=true)->
   b ∈ Region.ready b4 bj listed->YieldsIf P bj S i M r->S s ->
   Q9 P b4 bj Q S O k (listed.setIfInBounds b true) (r.put i.dst M) s->Q9 P b4 bj Q S O (k+1) listed r s:=by
 have A{G}(h:G:=by
 induction k with
 |zero=>
  intro listed r s t _ e j n H;exact D3
 |succ k U=>
  intro listed r s t hfree e j n H;refine⟨λh=>(by rw[h] at e;cases e),λa l=>?_⟩
  by_cases f:a=b
  ·subst f;exact j.wpOp u n ⟨λ_=>n,H⟩
  ·obtain⟨F,d,q,m⟩:=ky.1 l;have E:=X (a:=a) (d:=d) e m;have C:a≠O:=λc=>by
    subst c;rw[ae] at q;cases q;obtain⟨c,L,I,o⟩:=af;exact E c L I o
   have A{G}(h:G:=by
   have B:S z:=o.2.1 (by rw[h2 false C,h2 false ah];exact t)
   refine⟨λ_=>B,U (listed.setIfInBounds a true) R z (by rw[h2 false C];exact t) (λw ak v al D ad=>hfree w ak v al ?_ ad) (kL e (hV f)) o.1 B ?_⟩
   ·exact wA
   ·rw[lP _ _ f];exact o.2.2):=Pq h;exact w8):=Pq h;exact AEz
def C6 {b:Nat}{i:Oper}{M:PO}(u:bj[b]?=some i)(hsel:∀(a:Nat)(e:Oper) p g,bj[a]?=some e->e.op≠.select p g)(N:∀g k n,Q (.panic g) (k.put i.dst M) n->Q (.panic g) k n)(v:b≠O) :
  ∀(r:Nat)(listed:Array Bool)(k:Act)(n:Py),
   (∀a d,bj[a]?=some d->a≠b->listed.getD a true=false->(∀c ∈ d.after,Region.binds b4 c=true->c.on≠b)->i.apart bj d=true)->
   b ∈ Region.ready b4 bj listed->YieldsIf P bj (λ_=>True) i M k->(listed.getD O false=false->S n)->
   Q9 P b4 bj Q S O r (listed.setIfInBounds b true) (k.put i.dst M) n->Q9 P b4 bj Q S O (r+1) listed k n:=by
 have U:∀{listed:Array Bool}{d:Oper},b ∈ Region.ready b4 bj listed->(∀c ∈ d.after,Region.binds b4 c=true->listed.getD c.on false=true)->∀c ∈ d.after,Region.binds b4 c=true->c.on≠b:=by
  intro listed d e m c L I q;exact CQ
 intro r
 induction r with
 |zero=>
  intro listed k n _ e j t H;refine⟨λh=>(by rw[h] at e;cases e),λa l=>?_⟩
  by_cases f:a=b
  ·subst f;exact j.wpOp u trivial ⟨λh=>t (by rw[h2 false v] at h;exact h),H⟩
  ·have s:=kL l f;rw[H.1] at s;cases s
 |succ r C=>
  intro listed k n hfree e j t H;refine⟨λh=>(by rw[h] at e;cases e),λa l=>?_⟩
  by_cases f:a=b
  ·subst f;exact j.wpOp u trivial ⟨λh=>t (by rw[h2 false v] at h;exact h),H⟩
  ·obtain⟨F,d,q,m⟩:=ky.1 l;have E:=U (d:=d) e m;have A{G}(h:G:=by
   have B:(listed.setIfInBounds a true).getD O false=false->S z:=λh=>o.2.1 (by rw[lP _ _ (hV f),h2 false v];exact h)
   refine⟨B,C (listed.setIfInBounds a true) R z (λw L s T D I=>hfree w L s T ?_ I) (kL e (hV f)) o.1 B ?_⟩
   ·exact wA
   ·rw[lP _ _ f];exact o.2.2):=Pq h;exact w8
def uh {c7:Oper}{bB:Nat}{listed:Array Bool}{I:Act}{w:Py}(l:Nat)(v:PO)(dI:S w)(h:Q9 P b4 bj Q S O bB (listed.setIfInBounds l true) (I.put c7.dst v) w)(bO:bj[l]?=some c7:=by rfl)(eA:∀m I w,Q (.panic m) (I.put c7.dst v) w->Q (.panic m) I w:=by exact λ_ _ _ h=>h)(au:Region.noSelect bj=true:=by kernel_rfl)(b0:Region.free b4 bj listed l=true:=by kernel_rfl)(T:(Region.ready b4 bj listed).contains l=true:=by kernel_rfl)(eC:l≠O:=by decide)(aZ:YieldsIf P bj (λ_=>True) c7 v I:=by exact fU ⟨by kernel_rfl,λ_ _=>by go_simp⟩):Q9 P b4 bj Q S O (bB+1) listed I w:=
 C6 bO (lx au) eA eC bB listed I w (lI bO b0) (by simpa using T) aZ (λ_=>dI) h
def uz {c7:Oper}{bB:Nat}{listed:Array Bool}{I:Act}{w:Py}(l:Nat)(v:PO)(h:Q9 P b4 bj Q S O bB (listed.setIfInBounds l true) (I.put c7.dst v) w)(bO:bj[l]?=some c7:=by rfl)(eA:∀m I w,Q (.panic m) (I.put c7.dst v) w->Q (.panic m) I w:=by exact λ_ _ _ h=>h)(au:Region.noSelect bj=true:=by kernel_rfl)(b0:Region.free b4 bj listed l=true:=by kernel_rfl)(T:(Region.ready b4 bj listed).contains l=true:=by kernel_rfl)(eC:l≠O:=by decide)(ba:listed.getD O false=true:=by kernel_rfl)(aZ:YieldsIf P bj (λ_=>True) c7 v I:=by exact fU ⟨by kernel_rfl,λ_ _=>by go_simp⟩):Q9 P b4 bj Q S O (bB+1) listed I w:=
 C6 bO (lx au) eA eC bB listed I w (lI bO b0) (by simpa using T) aZ (λj=>by rw[ba] at j;cases j) h
def ug {c7 dK:Oper}{bB:Nat}{listed:Array Bool}{I:Act}{w:Py}(l:Nat)(v:PO)(bO:bj[l]?=some c7)(aZ:YieldsIf P bj S c7 v I)(dI:S w)(h:Q9 P b4 bj Q S O bB (listed.setIfInBounds l true) (I.put c7.dst v) w)(eA:∀m I w,Q (.panic m) (I.put c7.dst v) w->Q (.panic m) I w:=by exact λ_ _ _ h=>h)(bE:bj[O]?=some dK:=by rfl)(au:Region.noSelect bj=true:=by kernel_rfl)(b0:Region.free b4 bj listed l=true:=by kernel_rfl)(T:(Region.ready b4 bj listed).contains l=true:=by kernel_rfl)(eC:l≠O:=by decide)(eB:(dK.after.any λk=>Region.binds b4 k&&k.on==l)=true:=by kernel_rfl)(cM:listed.getD O false=false:=by kernel_rfl):Q9 P b4 bj Q S O (bB+1) listed I w:=by
 refine S1 bO bE (lx au) eA eC ?_ bB listed I w cM (lI bO b0) (by simpa using T) aZ dI h;obtain⟨k,en,aL⟩:=Array.any_eq_true'.1 eB;exact⟨k,en,by simpa using aL⟩
def vD {b:Oper}{e:Nat}{a:Act}{d:Py}{K:Act->Py->Prop}(f:bj[e]?=some b)(h:if Region.wanted b (yielded bj a.tmps)=true then Oper.wp P b a d K Q else K (a.put b.dst undef) d):wpOp P bj Q e K a d:=by
 unfold wpOp;simp only[f]
 split
 ·rename_i c;rw[fY c] at h;exact .inl h
 ·rename_i c;rw[fT c] at h;exact h
def QX {aM:Oper}{bB:Nat}{listed:Array Bool}{I:Act}{w:Py}(l:Nat)(h:∀dL:Act->Py->Prop,Shut (∀I w,((listed.setIfInBounds l true).getD O false=false->S w)->Q9 P b4 bj Q S O bB (listed.setIfInBounds l true) I w->dL I w)->if Region.wanted aM (yielded bj I.tmps)=true then Oper.wp P aM I w dL Q else dL (I.put aM.dst undef) w)(b3:bj[l]?=some aM:=by rfl)(T:Region.ready b4 bj listed=[l]:=by kernel_rfl):Q9 P b4 bj Q S O (bB+1) listed I w:=by
 refine⟨λaD=>(by rw[T] at aD;cases aD),λdk ez=>?_⟩
 rw[T] at ez;obtain rfl:=gn.1 ez;exact vD b3 (h _ λI w ah aL=>⟨ah,aL⟩)
def jZ {aM dF:Oper}{bB:Nat}{listed:Array Bool}{I:Act}{w:Py}(l dk:Nat)(h:∀dL:Act->Py->Prop,Shut (∀I w,((listed.setIfInBounds l true).getD O false=false->S w)->Q9 P b4 bj Q S O bB (listed.setIfInBounds l true) I w->dL I w)->if Region.wanted aM (yielded bj I.tmps)=true then Oper.wp P aM I w dL Q else dL (I.put aM.dst undef) w)(e4:∀dL:Act->Py->Prop,Shut (∀I w,((listed.setIfInBounds dk true).getD O false=false->S w)->Q9 P b4 bj Q S O bB (listed.setIfInBounds dk true) I w->dL I w)->if Region.wanted dF (yielded bj I.tmps)=true then Oper.wp P dF I w dL Q else dL (I.put dF.dst undef) w)(b3:bj[l]?=some aM:=by rfl)(e3:bj[dk]?=some dF:=by rfl)(T:Region.ready b4 bj listed=[l,dk]:=by kernel_rfl):Q9 P b4 bj Q S O (bB+1) listed I w:=by
 refine⟨λaD=>(by rw[T] at aD;cases aD),λds dl=>?_⟩
 rw[T] at dl
 rcases gE.1 dl with rfl|dl
 ·exact vD b3 (h _ λI w ah aL=>⟨ah,aL⟩)
 ·obtain rfl:=gn.1 dl;exact vD e3 (e4 _ λI w ah aL=>⟨ah,aL⟩)
def oB {listed:Array Bool}{a:Act}{c:Py}(b:Region.ready b4 bj listed=[])(h:Q .normal a c):∀d,Q9 P b4 bj Q S O d listed a c
 |0=>⟨b,h⟩
 |_+1=>⟨λ_=>h,by rw[b];simp⟩
def Qd {id:Nat}{a:Act}{b:Py}(O:Nat)(S:Py->Prop)(c:P.follows .mixedOrders=true)(h:Q9 P .any bj Q S O bj.size (Array.replicate bj.size false) a b.drew):(Code.region id bj true).wp P Q a b:=
 wp_region_any c (B6 _ _ _ _ h)
def Nq {P:Program}{a:Py}{bj:Array Oper}{g:Oper}{e:Act}{K:Act->Py->Prop}{Q:Exit->Act->Py->Prop}{N:Prop}(D:g.guard=none)(r x:Operand)(l:TypeId)(u:g.op=.call { callee:=.builtin .append,args:=#[r,x],argTypes:=#[l,l] })(base U:Nat)(f:TypeId)(i:TypeInfo)(q:PO)(bytes:Nat)(v:P.underlying l=some (.slice f))(A:P.info? f=some i)(E:i.zero=some q)(hsize:i.size=1)(H:i.bytes=bytes)(R:q.cells.size=1)(c:PO)(j:Nat)(p:List PO)(z:e.eval r=c)(k:a.ownsRow base f 1 c j p)(C:PO)(b:Nat)(news:List PO)(w:e.eval x=C)(d:a.ownsRow U f 1 C b news)(I:∀B ∈ news,B.oneCell'=true)(T:j+b<=maxLen)(hbytes:(j+b) * bytes<=140737488355328)(hbase:base<=a.heap.size)(h:∀m o,o.ownsRow base f 1 m (j+b) (p++news)->a.grownBy o c.ownBlock->K (e.put g.dst m) o):if Region.wanted g (yielded bj e.tmps)=true then Oper.wp P g e a K Q else N:=by
 rcases mC b with rfl|t
 ·have M:Region.wanted g (yielded bj e.tmps)=true:=by simp[Region.wanted,D]
  rw[fY M];have F{G}(h:G:=by
  have L:=Fp (P:=P) (a:=a) base l g.type f i 1 v A c j p k n s;unfold Oper.wp;simp[execOp,u,resolve,invoke,builtin,z,w,L,Result.andThen];exact m):=Pq h;exact Js
 ·obtain⟨m,F,rfl,_,_⟩:=d.form t;refine step_append_lies a D r x l u base f i q 1 bytes v A E hsize H R PK c j p z k (Pn m 0) b F news w d.1 (λn B s=>?_) I t T hbytes hbase _ rfl (λM L o e O _ _=>h _ _ e O);exact Dk
def nC (b4:Region.Mode)(bj:Array Oper):Nat->Nat->Nat->Bool
 |0,_,_=>false
 |c+1,O,b=>match bj[O]? with
  |none=>false
  |some d=>d.after.any λa=>Region.binds b4 a&&(a.on==b||nC b4 bj c a.on b)
def jo (b4:Region.Mode)(bj:Array Oper)(listed:Array Bool):Prop:=∀(b:Nat)(c:Oper),bj[b]?=some c->listed.getD b false=true->∀a ∈ c.after,Region.binds b4 a=true->listed.getD a.on false=true
def zZ {listed:Array Bool}{k:Nat}(i:jo b4 bj listed):∀(c f:Nat)(g:Oper),bj[f]?=some g->(∀a ∈ g.after,Region.binds b4 a=true->listed.getD a.on false=true)->nC b4 bj c f k=true->listed.getD k false=true
 |0,_,_,_,_,h=>by cases h
 |c+1,f,g,m,o,h=>by
  rw[nC,m] at h;obtain⟨a,n,d⟩:=Array.any_eq_true'.1 h;rw[lf,m4] at d;have j:=o a n d.1
  rcases d.2 with b|b
  ·rw[<-eq_of_beq b];exact j
  ·
   cases e:bj[a.on]? with
   |none=>
    cases c with
    |zero=>cases b
    |succ c=>rw[nC,e] at b;cases b
   |some l=>exact zZ i c a.on l e (i a.on l e j) b
def Oq {listed:Array Bool}{b c:Nat}(h:listed.getD c false=true):(listed.setIfInBounds b true).getD c false=true:=by
 by_cases d:b=c
 ·subst d;have a:b<listed.size:=by
   rcases im b listed.size with a|a
   ·exact a
   ·rw[Array.getD_eq_getD_getElem?,kF a] at h;cases h
  simp[a]
 ·rw[h2 false d];exact h
def T9 {listed:Array Bool}{c:Nat}{i:Oper}(l:jo b4 bj listed)(k:bj[c]?=some i)(m:∀a ∈ i.after,Region.binds b4 a=true->listed.getD a.on false=true):jo b4 bj (listed.setIfInBounds c true):=by
 intro g n b f a e d;refine Oq ?_
 by_cases j:c=g
 ·subst j;rw[k] at b;cases b;exact m a e d
 ·rw[h2 false j] at f;exact l g n b f a e d
def rd (b4:Region.Mode)(bj:Array Oper)(listed:Array Bool):Bool:=(List.range bj.size).all λb=>!(listed.getD b false)||(match bj[b]? with|some c=>c.after.all λa=>!(Region.binds b4 a)||listed.getD a.on false|none=>true)
def T1 {listed:Array Bool}(h:rd b4 bj listed=true):jo b4 bj listed:=by
 intro d k c j i g e;have f:d<bj.size:=(ih.1 c).1;have a:=List.all_eq_true.1 h d (mI.2 f);rw[j,c] at a;simp only[mK,hL] at a;have b:=Array.all_eq_true'.1 a i g;rw[e] at b;simpa using b
def W4 {b T:Nat}{i:Oper}{M:PO}(u:bj[b]?=some i)(hsel:∀(a:Nat)(e:Oper) p g,bj[a]?=some e->e.op≠.select p g)(N:∀g r s,Q (.panic g) (r.put i.dst M) s->Q (.panic g) r s)(ah:b≠O)(af:nC b4 bj T O b=true) :
  ∀(k:Nat)(listed:Array Bool)(r:Act)(s:Py),listed.getD O false=false->jo b4 bj listed ->
   (∀a d,bj[a]?=some d->a≠b->listed.getD a true=false->(∀c ∈ d.after,Region.binds b4 c=true->c.on≠b)->i.apart bj d=true)->
   b ∈ Region.ready b4 bj listed->YieldsIf P bj S i M r->S s ->
   Q9 P b4 bj Q S O k (listed.setIfInBounds b true) (r.put i.dst M) s->Q9 P b4 bj Q S O (k+1) listed r s:=by
 have A{G}(h:G:=by
 induction k with
 |zero=>
  intro listed r s t _ _ e j n H;exact D3
 |succ k ae=>
  intro listed r s t I hfree e j n H;refine⟨λh=>(by rw[h] at e;cases e),λa l=>?_⟩
  by_cases f:a=b
  ·subst f;exact j.wpOp u n ⟨λ_=>n,H⟩
  ·obtain⟨F,d,q,m⟩:=ky.1 l;have E:=X (a:=a) (d:=d) e m;have U:a≠O:=λc=>by
    subst c;have o:=zZ I T a d q m af;have C:=(ky.1 e).1
    cases B:listed[b]? with
    |none=>simp[B] at o
    |some x=>simp[B] at C o;rw[C] at o;cases o
   have A{G}(h:G:=by
   have L:S z:=o.2.1 (by rw[h2 false U,h2 false ah];exact t)
   refine⟨λ_=>L,ae (listed.setIfInBounds a true) R z (by rw[h2 false U];exact t) (T9 I q m) (λw ak v al D ad=>hfree w ak v al ?_ ad) (kL e (hV f)) o.1 L ?_⟩
   ·exact wA
   ·rw[lP _ _ f];exact o.2.2):=Pq h;exact w8):=Pq h;exact AEz
def uc {c7:Oper}{bB:Nat}{listed:Array Bool}{I:Act}{w:Py}(l:Nat)(v:PO)(bO:bj[l]?=some c7)(aZ:YieldsIf P bj S c7 v I)(dI:S w)(h:Q9 P b4 bj Q S O bB (listed.setIfInBounds l true) (I.put c7.dst v) w)(eA:∀m I w,Q (.panic m) (I.put c7.dst v) w->Q (.panic m) I w:=by exact λ_ _ _ h=>h)(au:Region.noSelect bj=true:=by kernel_rfl)(b0:Region.free b4 bj listed l=true:=by kernel_rfl)(T:(Region.ready b4 bj listed).contains l=true:=by kernel_rfl)(eC:l≠O:=by decide)(eB:nC b4 bj bj.size O l=true:=by kernel_rfl)(cV:rd b4 bj listed=true:=by kernel_rfl)(cM:listed.getD O false=false:=by kernel_rfl):Q9 P b4 bj Q S O (bB+1) listed I w:=
 W4 bO (lx au) eA eC eB bB listed I w cM (T1 cV) (lI bO b0) (by simpa using T) aZ dI h
variable {c7:Oper}{bB:Nat}{listed:Array Bool}{I:Act}{w U:Py}
def up (l m aM:Nat)(dI:S w)(h:Q9 P b4 bj Q S O bB (listed.setIfInBounds l true) (I.put c7.dst (PZ m aM)) w)(bO:bj[l]?=some c7:=by rfl)(eA:∀fO I w,Q (.panic fO) (I.put c7.dst (PZ m aM)) w->Q (.panic fO) I w:=by exact λ_ _ _ h=>h)(au:Region.noSelect bj=true:=by kernel_rfl)(b0:Region.free b4 bj listed l=true:=by kernel_rfl)(T:(Region.ready b4 bj listed).contains l=true:=by kernel_rfl)(eC:l≠O:=by decide)(aZ:YieldsIf P bj (λ_=>True) c7 (PZ m aM) I:=by exact fU ⟨by kernel_rfl,λ_ _=>by go_simp⟩):Q9 P b4 bj Q S O (bB+1) listed I w:=
 uh l _ dI h bO eA au b0 T eC aZ
def uk (l:Nat){v:PO}{m aM:Nat}(X:U.cell? (Pn m aM)=some v)(dI:PG U w)(h:Q9 P b4 bj Q (λt=>PG U t) O bB (listed.setIfInBounds l true) (I.put c7.dst v) w)(bO:bj[l]?=some c7:=by rfl)(eA:∀m I w,Q (.panic m) (I.put c7.dst v) w->Q (.panic m) I w:=by exact λ_ _ _ h=>h)(au:Region.noSelect bj=true:=by kernel_rfl)(b0:Region.free b4 bj listed l=true:=by kernel_rfl)(T:(Region.ready b4 bj listed).contains l=true:=by kernel_rfl)(eC:l≠O:=by decide)(eB:nC b4 bj bj.size O l=true:=by kernel_rfl)(cV:rd b4 bj listed=true:=by kernel_rfl)(cM:listed.getD O false=false:=by kernel_rfl)(af:Region.wanted c7 (yielded bj I.tmps)=true:=by kernel_rfl)(aZ:∀t:Py,t.cell? (Pn m aM)=some v->(execOp I.eval c7).run P t=.ok (.value v) t:=by intro t aD;go_simp):Q9 P b4 bj Q (λt=>PG U t) O (bB+1) listed I w:=
 uc l v bO (fU ⟨af,λt f=>aZ t (PV f X)⟩) dI h eA au b0 T eC eB cV cM
def jY (l:Nat){b6 e r:PO}{m:Nat}{R:Prop}(X:U.cell? (Pn m 0)=some b6/\U.cell? (Pn m 1)=some e/\U.cell? (Pn m 2)=some r/\R)(dI:PG U w)(h:Q9 P b4 bj Q (λt=>PG U t) O bB (listed.setIfInBounds l true) (I.put c7.dst (.agg #[b6,e,r])) w)(bO:bj[l]?=some c7:=by rfl)(eA:∀m I w,Q (.panic m) (I.put c7.dst (.agg #[b6,e,r])) w->Q (.panic m) I w:=by exact λ_ _ _ h=>h)(au:Region.noSelect bj=true:=by kernel_rfl)(b0:Region.free b4 bj listed l=true:=by kernel_rfl)(T:(Region.ready b4 bj listed).contains l=true:=by kernel_rfl)(eC:l≠O:=by decide)(eB:nC b4 bj bj.size O l=true:=by kernel_rfl)(cV:rd b4 bj listed=true:=by kernel_rfl)(cM:listed.getD O false=false:=by kernel_rfl)(af:Region.wanted c7 (yielded bj I.tmps)=true:=by kernel_rfl)(aZ:∀t:Py,t.cell? (Pn m 0)=some b6->t.cell? (Pn m 1)=some e->t.cell? (Pn m 2)=some r->(execOp I.eval c7).run P t=.ok (.value (.agg #[b6,e,r])) t:=by intro t aD ah aL;go_simp):Q9 P b4 bj Q (λt=>PG U t) O (bB+1) listed I w:=
 uc l _ bO (fU ⟨af,λt f=>aZ t (PV f X.1) (PV f X.2.1) (PV f X.2.2.1)⟩) dI h eA au b0 T eC eB cV cM
def kx (l:Nat){b6 e r dK:PO}{m:Nat}{R:Prop}(X:U.cell? (Pn m 0)=some b6/\U.cell? (Pn m 1)=some e/\U.cell? (Pn m 2)=some r/\U.cell? (Pn m 3)=some dK/\R)(dI:PG U w)(h:Q9 P b4 bj Q (λt=>PG U t) O bB (listed.setIfInBounds l true) (I.put c7.dst (.agg #[b6,e,r,dK])) w)(bO:bj[l]?=some c7:=by rfl)(eA:∀m I w,Q (.panic m) (I.put c7.dst (.agg #[b6,e,r,dK])) w->Q (.panic m) I w:=by exact λ_ _ _ h=>h)(au:Region.noSelect bj=true:=by kernel_rfl)(b0:Region.free b4 bj listed l=true:=by kernel_rfl)(T:(Region.ready b4 bj listed).contains l=true:=by kernel_rfl)(eC:l≠O:=by decide)(eB:nC b4 bj bj.size O l=true:=by kernel_rfl)(cV:rd b4 bj listed=true:=by kernel_rfl)(cM:listed.getD O false=false:=by kernel_rfl)(af:Region.wanted c7 (yielded bj I.tmps)=true:=by kernel_rfl)(aZ:∀t:Py,t.cell? (Pn m 0)=some b6->t.cell? (Pn m 1)=some e->t.cell? (Pn m 2)=some r->t.cell? (Pn m 3)=some dK->(execOp I.eval c7).run P t=.ok (.value (.agg #[b6,e,r,dK])) t:=by intro t aD ah aL bZ;go_simp):Q9 P b4 bj Q (λt=>PG U t) O (bB+1) listed I w:=
 uc l _ bO (fU ⟨af,λt f=>aZ t (PV f X.1) (PV f X.2.1) (PV f X.2.2.1) (PV f X.2.2.2.1)⟩) dI h eA au b0 T eC eB cV cM
def UG {id:Nat}(O:Nat)(h:PG w w.drew->Q9 P .any bj Q (λt=>PG w t) O bj.size (Array.replicate bj.size false) I w.drew)(dl:P.follows .mixedOrders=true:=by kernel_rfl):(Code.region id bj true).wp P Q I w:=
 Qd O _ dl (h RV.drew)
def Ud (h:Q .normal I w)(bB:Nat)(T:Region.ready b4 bj listed=[]:=by kernel_rfl):Q9 P b4 bj Q S O bB listed I w:=oB T h bB
def ko {K:Act->Py->Prop}{t:Act->Py->Prop}(d:Shut (∀I w,(listed.getD O false=false->S w)->t I w->K I w))(h:t I w)(ad:listed.getD O false=true:=by kernel_rfl):K I w:=
 d.out I w (λj=>by rw[ad] at j;cases j) h
def VH {aM:Oper}{t:Prop}(l:Nat)(i:t)(b3:bj[l]?=some aM:=by rfl)(T:Region.ready b4 bj listed=[l]:=by kernel_rfl)(h:Kk t->∀K:Act->Py->Prop,Shut (∀I w,((listed.setIfInBounds l true).getD O false=false->S w)->Q9 P b4 bj Q S O bB (listed.setIfInBounds l true) I w->K I w)->if Region.wanted aM (yielded bj I.tmps)=true then Oper.wp P aM I w K Q else K (I.put aM.dst undef) w:=by
      intro i K fy;go_simp;exact ko fy i.o):Q9 P b4 bj Q S O (bB+1) listed I w:=
  QX l (h ⟨i⟩) b3 T
inductive Tf (c9 dB:PS->Prop)(dA:Int->Prop):Nat->Tr->Prop
 |name {s} (h:c9 s):Tf c9 dB dA 0 (.mk 23 s 0 [])
 |str {s} (h:dB s):Tf c9 dB dA 0 (.mk 18 s 0 [])
 |num {n} (h:dA n):Tf c9 dB dA 0 (.mk 17 PE n [])
 |lit {kd} (E:kd=19\/kd=20\/kd=21\/kd=22):Tf c9 dB dA 0 (.mk kd PE 0 [])
 |pN {s t} (h:c9 s) (aV:Tf c9 dB dA 0 t):Tf c9 dB dA 0 (.mk 36 s 0 [t])
 |call {t am} (aV:Tf c9 dB dA 0 t) (ac:∀u ∈ am,Tf c9 dB dA 0 u) (hl:am.length<=8):Tf c9 dB dA 0 (.mk 35 PE 0 (t::am))
 |one {kd t} (E:kd=32\/kd=33\/kd=34) (aV:Tf c9 dB dA 0 t):Tf c9 dB dA 0 (.mk kd PE 0 [t])
 |two {kd a b} (E:25<=kd/\kd<=31) (aw:Tf c9 dB dA 0 a) (D:Tf c9 dB dA 0 b):Tf c9 dB dA 0 (.mk kd PE 0 [a,b])
 |iH {a b} (E:a.kd=23\/a.kd=36) (aw:Tf c9 dB dA 0 a) (D:Tf c9 dB dA 0 b):Tf c9 dB dA 0 (.mk 24 PE 0 [a,b])
 |obj {ps} (ac:∀u ∈ ps,Tf c9 dB dA 2 u) (hl:ps.length<=8):Tf c9 dB dA 0 (.mk 38 PE 0 ps)
 |lB {s p b} (h:s=PE\/c9 s) (aj:Tf c9 dB dA 5 p) (D:Tf c9 dB dA 4 b):Tf c9 dB dA 0 (.mk 37 s 0 [p,b])
 |gQ {s v} (h:c9 s) (aq:Tf c9 dB dA 0 v):Tf c9 dB dA 2 (.mk 39 s 0 [v])
 |yx {s} (h:c9 s):Tf c9 dB dA 6 (.mk 23 s 0 [])
 |p9 {ps} (ac:∀u ∈ ps,Tf c9 dB dA 6 u) (hl:ps.length<=8):Tf c9 dB dA 5 (.mk 40 PE 0 ps)
 |gG {am} (ac:∀u ∈ am,Tf c9 dB dA 1 u):Tf c9 dB dA 3 (.mk 6 PE 0 am)
 |body {tx am} (aV:tx=PE\/tx=Wj) (ac:∀u ∈ am,Tf c9 dB dA 1 u):Tf c9 dB dA 4 (.mk 6 tx 0 am)
 |decl {kd s v} (E:kd=2\/kd=3\/kd=4) (h:c9 s) (aq:∀u ∈ v,Tf c9 dB dA 0 u) (hl:v.length<=1) (ai:kd=4->v.length=1):Tf c9 dB dA 1 (.mk kd s 0 v)
 |func {s p b} (h:c9 s) (aj:Tf c9 dB dA 5 p) (D:Tf c9 dB dA 4 b):Tf c9 dB dA 1 (.mk 5 s 0 [p,b])
 |Y6 {t} (h:Tf c9 dB dA 3 t):Tf c9 dB dA 1 t
 |lA {v s} (aq:Tf c9 dB dA 0 v) (ac:Tf c9 dB dA 1 s):Tf c9 dB dA 1 (.mk 7 PE 0 [v,s])
 |qA {v s e} (aq:Tf c9 dB dA 0 v) (ac:Tf c9 dB dA 1 s) (av:Tf c9 dB dA 1 e):Tf c9 dB dA 1 (.mk 7 PE 0 [v,s,e])
 |loop {kd v s} (E:kd=8\/kd=9) (aq:Tf c9 dB dA 0 v) (ac:Tf c9 dB dA 1 s):Tf c9 dB dA 1 (.mk kd PE 0 [v,s])
 |h6 {kd v} (E:kd=10\/kd=11) (aq:∀u ∈ v,Tf c9 dB dA 0 u) (hl:v.length<=1) (ai:kd=11->v.length=1):Tf c9 dB dA 1 (.mk kd PE 0 v)
 |mj {b c f} (D:Tf c9 dB dA 3 b) (ai:∀u ∈ c,Tf c9 dB dA 7 u) (aC:∀u ∈ f,Tf c9 dB dA 8 u) (hl:c.length<=1/\f.length<=1/\0<c.length+f.length):Tf c9 dB dA 1 (.mk 12 PE 0 (b::(c++f)))
 |cat {s b} (h:c9 s) (D:Tf c9 dB dA 3 b):Tf c9 dB dA 7 (.mk 13 s 0 [b])
 |fin {b} (D:Tf c9 dB dA 3 b):Tf c9 dB dA 8 (.mk 14 PE 0 [b])
 |empty:Tf c9 dB dA 1 (.mk 16 PE 0 [])
 |expr {v} (aq:Tf c9 dB dA 0 v):Tf c9 dB dA 1 (.mk 15 PE 0 [v])
 |prog {tx am} (aV:tx=PE\/tx=Wj) (ac:∀u ∈ am,Tf c9 dB dA 1 u):Tf c9 dB dA 9 (.mk 1 tx 0 am)
def Ko (c:Int)(bB:Int)(b:List Tr):∃a,(a=PE\/a=Wj)/\VT (.mk c PE bB b)=.mk c a bB b:=by
 unfold VT
 split
 ·rename_i h;cases h;split
  ·exact⟨_,f4 rfl,rfl⟩
  ·exact⟨_,fU rfl,rfl⟩
 ·exact⟨_,fU rfl,rfl⟩
def Tf.aAy {a c:PS->Prop}{b:Int->Prop}{d:Tr}(h:Tf a c b 3 d):Tf a c b 4 (VT d):=by
 cases h with
 |gG f=>obtain⟨i,g,e⟩:=Ko 6 0 _;rw[e];exact .body g f
def YN {c:Int}{x:PS}{a:Sg}(h:iG c x=some a):a ∈ jJ/\a.parts=c:=by
 unfold iG at h;have b:=Option.filter_eq_some_iff.1 h;exact⟨iz b.1,by simpa using b.2⟩
def oX (b:Nat)(a:Int):Bool:=match b with
 |0=>a==2||a==3||a==4
 |4=>a==7
 |5=>a==8||a==9
 |6=>a==10||a==11
 |_=>true
section
variable {a:List Tk}
def ke (a:List Tk)(c:PS):Prop:=∃b,(Qn a b).kd=1/\(Qn a b).tx=c
def kl (a:List Tk)(c:PS):Prop:=∃b,(Qn a b).tx=c
def kq (a:List Tk)(bB:Int):Prop:=∃b,(Qn a b).n=bB
def X4 {b e:Nat}{c:PS}(h:gK a b=.ok c e):ke a c:=by
 unfold gK at h
 split at h
 ·rename_i d;cases h;exact⟨b,d,rfl⟩
 ·
  cases h
def MU {i c:Nat}(h:Sr Vh (fx a c)=some i):oX i (RN (Qn a c).tx)=true:=by
 unfold Sr at h
 cases e:Vh.find? (λb=>decide (fx a c=b.1)) with
 |none=>rw[e] at h;cases h
 |some b=>
  rw[e] at h;have g:=iz e;have d:fx a c=b.1:=by simpa using mv e
  have f:∀b ∈ Vh,oX b.2 (RN b.1)=true/\b.1≠PE:=by decide +kernel
  have j:(Qn a c).tx=b.1:=by
   unfold fx at d
   split at d
   ·exact d
   ·exact absurd d.symm (f b g).2
  cases h;rw[j];exact(f b g).1
abbrev Kh (a:List Tk)(c:Nat)(e:PR Tr):Prop:=∀b d,e=.ok b d->Tf (ke a) (kl a) (kq a) c b
def Vf {b:Nat}{d:Nat->Nat->PR Tr}{c e:Nat}(h:Kh a b (d (c+1) e)):Kh a b (QJ a d c e):=by
 unfold QJ
 split
 ·intro i g f;cases f
 ·exact h
def DK {P:Tr->Prop}{b:List Tr}{c:Tr}(f:∀x ∈ b,P x)(d:P c):∀x ∈ b++[c],P x:=by
 intro x e
 rcases gB.1 e with h|h
 ·exact f x h
 ·rw[gn.1 h];exact d
def OV {g:Nat}{shut:PS}{begins:Nat->Bool}{part:Nat->PR Tr}(m:∀b d e,part b=.ok d e->begins b=true)(o:∀b,Kh a g (part b)):∀f c b d e,(∀x ∈ c,Tf (ke a) (kl a) (kq a) g x)->c.length<=8->UD a shut begins part f c b=.ok d e->(∀x ∈ d,Tf (ke a) (kl a) (kq a) g x)/\d.length<=8:=by
 intro f
 induction f with
 |zero=>intro c b d e _ _ h;cases h
 |succ f r=>
  intro c b d e p t h;unfold UD at h
  split at h
  ·
   cases h
  ·rename_i q
   obtain⟨l,n,k,h⟩:=f0 h;have i:=DK p (o b l n k);have j:(c++[l]).length<=8:=by
    have:c.length≠8:=λs=>q ⟨s,m _ _ _ k⟩;simp;omega
   split at h
   ·
    cases h;exact⟨i,j⟩
   ·obtain⟨_,i2,s,h⟩:=f0 h;exact r _ _ _ _ i j h
def yg {c:Nat}{j shut:PS}{begins:Nat->Bool}{part:Nat->PR Tr}(f:∀b d e,part b=.ok d e->begins b=true)(g:∀b,Kh a c (part b)){i b e:Nat}{d:List Tr}(h:XR a j shut begins part i b=.ok d e):(∀x ∈ d,Tf (ke a) (kl a) (kq a) c x)/\d.length<=8:=by
 unfold XR at h;obtain⟨_,k,l,h⟩:=f0 h
 split at h
 ·
  cases h;exact⟨λ_ h=>(by cases h),by simp⟩
 ·exact OV f g _ _ _ _ _ (λ_ h=>by cases h) Qh h
def GO {b d:Nat}{e:PS}(h:gK a b=.ok e d):gX a b=true:=by
 unfold gK at h
 split at h
 ·rename_i c;unfold gX;rw[c];rfl
 ·
  cases h
structure Fl (l:List Tk)(F:Ut):Prop where
 st:∀d i,Kh l 1 (F.st d i)
 vl:∀d i,Kh l 0 (F.vl d i)
 pr:∀b d i,Kh l 0 (F.pr b d i)
 sg:∀d i,Kh l 0 (F.sg d i)
 bg:∀d i t j,F.vl d i=.ok t j->hY l i=true
 bp:∀b d i t j,F.pr b d i=.ok t j->hY l i=true
 bs:∀d i t j,F.sg d i=.ok t j->hY l i=true
variable {e:Ut}(b:Fl a e)
include b
def LP {l:Nat}:∀d c g f i,(∀x ∈ c,Tf (ke a) (kl a) (kq a) 1 x)->RZ a e l d c g=.ok f i->∀x ∈ f,Tf (ke a) (kl a) (kq a) 1 x:=by
 intro d
 induction d with
 |zero=>intro c g f i _ h;cases h
 |succ d k=>
  intro c g f i j h;unfold RZ at h;exact FG
def Zv {d f:Nat}:Kh a 3 (Rk a e d f):=by
 intro l k h;unfold Rk at h;obtain⟨_,g,j,h⟩:=f0 h;obtain⟨i,i2,c,h⟩:=f0 h;cases h;exact .gG (LP b _ _ _ _ _ (λ_ h=>by cases h) c)
omit b in
theorem aoq {d:Nat}:Kh a 5 (Uu a e d):=by
 intro g f h;unfold Uu at h;obtain⟨j,i,c,h⟩:=f0 h;cases h;have:=yg (c:=6) (λd g f h=>by unfold V5 at h;obtain⟨_,_,c,_⟩:=f0 h;exact GO c) (λd g f h=>by unfold V5 at h;obtain⟨_,_,c,h⟩:=f0 h;cases h;exact .yx (X4 c)) c
 exact .p9 this.1 this.2
def yh (d f:Nat):Kh a 0 (VA a e d f):=by
 intro m l h;unfold VA at h;obtain⟨_,g,j,h⟩:=f0 h;obtain⟨n,i2,c,h⟩:=f0 h;obtain⟨_,k,i,h⟩:=f0 h;cases h;exact Vf (b.vl _ _) _ _ c
def Ss (j d:Nat):Kh a 0 (Xb a e j d):=by
 intro g f h;unfold Xb at h;obtain⟨l,k,c,h⟩:=f0 h;cases h;have:=yg (c:=2) (λd g f h=>by unfold Yj at h;obtain⟨_,_,c,_⟩:=f0 h;exact GO c) (λd g f h=>by
  unfold Yj at h;obtain⟨_,_,c,h⟩:=f0 h;obtain⟨_,_,_,h⟩:=f0 h;obtain⟨_,_,i,h⟩:=f0 h;cases h;exact .gQ (X4 c) (Vf (b.vl _ _) _ _ i)) c
 exact .obj this.1 this.2
def uA {c:Int}{f:PS}{j l m:Nat}{g:Tr}(h:TU a e c f j l=.ok g m):∃d O,g=.mk c f 0 [d,O]/\Tf (ke a) (kl a) (kq a) 5 d/\Tf (ke a) (kl a) (kq a) 4 O:=by
 unfold TU at h;obtain⟨o,n,k,h⟩:=f0 h;obtain⟨O,i2,i,h⟩:=f0 h;cases h;exact⟨_,_,rfl,aoq _ _ k,(Zv b _ _ i).aAy⟩
def NH (g i:Nat):Kh a 0 (Xc a e g i):=by
 intro o m h;unfold Xc at h;obtain⟨_,k,l,h⟩:=f0 h
 split at h
 ·obtain⟨n,i2,f,h⟩:=f0 h;obtain⟨j,O,rfl,d,c⟩:=uA b h;exact .lB (f4 (X4 f)) d c
 ·obtain⟨j,O,rfl,d,c⟩:=uA b h;exact .lB (fU rfl) d c
def OG (f c:Nat):Kh a 0 (VD a e f c):=by
 unfold VD
 split
 ·exact yh b f c
 ·exact Ss b f c
 ·exact NH b f c
 ·split
  ·rename_i j;intro i g h;cases h
   have k:∀d ∈ jJ,d.parts=0->d.kd=19\/d.kd=20\/d.kd=21\/d.kd=22:=by decide +kernel
   exact .lit (k _ (YN j).1 (YN j).2)
  ·split
   ·rename_i d;intro i g h;cases h;exact .name ⟨c,d,rfl⟩
   ·split
    ·intro i g h;cases h;exact .str ⟨c,rfl⟩
    ·split
     ·intro i g h;cases h;exact .num ⟨c,rfl⟩
     ·intro i g h;cases h
omit b in
theorem asu {k d l:Nat}{m:Tr}(h:VD a e k d=.ok m l):hY a d=true:=by
 unfold hY;unfold VD at h
 cases j:Sr Ur (fx a d) with
 |some p=>simp
 |none=>
  rw[j] at h;simp only at h
  cases f:iG 0 (fx a d) with
  |some q=>
   have i{G}(h:G:=by
   rw[g];simp):=Pq h;exact F2
  |none=>
   rw[f] at h;simp only at h
   split at h
   ·rename_i c;simp[c]
   ·split at h
    ·rename_i c;simp[c]
    ·split at h
     ·rename_i c;simp[c]
     ·
      cases h
def Np {n:Nat}:∀g i c d f,Tf (ke a) (kl a) (kq a) 0 i->TV a e n g i c=.ok d f->Tf (ke a) (kl a) (kq a) 0 d:=by
 intro g
 induction g with
 |zero=>intro i c d f _ h;cases h
 |succ g l=>
  intro i c d f j h;unfold TV at h
  split at h
  ·obtain⟨o,m,k,h⟩:=f0 h;exact l _ _ _ _ (.pN (X4 k) j) h
  ·split at h
   ·obtain⟨o,m,k,h⟩:=f0 h;have:=yg (c:=0) (λc d f h=>by
     unfold QJ at h
     split at h
     ·
      cases h
     ·exact b.bg _ _ _ _ h) (λc=>Vf (b.vl _ _)) k
    exact l _ _ _ _ (.call j this.1 this.2) h
   ·
    cases h;exact j
def Rv (i k:Nat):Kh a 0 (UQ a e i k):=by
 unfold UQ
 split
 ·rename_i j
  intro n m h;obtain⟨f,g,d,h⟩:=f0 h;cases h;have l:∀c ∈ jJ,c.parts=1->c.kd=32\/c.kd=33\/c.kd=34:=by decide +kernel
  exact .one (l _ (YN j).1 (YN j).2) (Vf (b.sg _ _) f _ d)
 ·intro n m h;unfold VE at h;obtain⟨f,g,d,h⟩:=f0 h;exact Np b _ _ _ _ _ (OG b i k f g d) h
omit b in
theorem aou (j d:Nat)(l:Tr)(k:Nat)(h:UQ a e j d=.ok l k):hY a d=true:=by
 unfold UQ at h
 cases f:iG 1 (fx a d) with
 |some p=>
  have i{G}(h:G:=by
  unfold hY;rw[g];simp):=Pq h;exact F2
 |none=>
  rw[f] at h;simp only at h;unfold VE at h;obtain⟨q,m,c,_⟩:=f0 h;exact asu c
def LR {O:Int}{p:Nat}:∀c f i d j,Tf (ke a) (kl a) (kq a) 0 f->U2 a e O p c f i=.ok d j->Tf (ke a) (kl a) (kq a) 0 d:=by
 intro c
 induction c with
 |zero=>intro f i d j _ h;cases h
 |succ c o=>
  intro f i d j g h;unfold U2 at h
  split at h
  ·
   cases h;exact g
  ·rename_i l
   split at h
   ·
    cases h;exact g
   ·obtain⟨r,n,q,h⟩:=f0 h;have m:∀k ∈ jJ,k.parts=2->25<=k.kd/\k.kd<=31:=by decide +kernel
    exact o _ _ _ _ (.two (m _ (YN l).1 (YN l).2) g (b.pr _ _ _ r n q)) h
def avY (O:Int)(d g:Nat):Kh a 0 (Yk a e O d g):=by
 intro k j h;unfold Yk at h;obtain⟨i,c,f,h⟩:=f0 h;exact LR b _ _ _ _ _ (b.sg _ _ i c f) h
def asv (i k:Nat):Kh a 0 (V6 a e i k):=by
 intro o n h;unfold V6 at h;obtain⟨l,g,j,h⟩:=f0 h;have c:=b.pr _ _ _ l g j
 split at h
 ·split at h
  ·rename_i d
   obtain⟨m,i2,f,h⟩:=f0 h;cases h;exact .iH d c (Vf (b.vl _ _) m _ f)
  ·
   cases h
 ·
  cases h;exact c
def X2 (t C j:Nat)(p:oX C (RN (Qn a j).tx)=true):Kh a 1 (nN a e t C j):=by
 intro ae X h;unfold nN at h
 split at h
 ·have k:RN (Qn a j).tx=2\/RN (Qn a j).tx=3\/RN (Qn a j).tx=4:=by simpa[oX,or_assoc] using p
  unfold oA at h;obtain⟨o,l,g,h⟩:=f0 h
  split at h
  ·
   cases h
  ·rename_i r
   split at h
   ·obtain⟨n,i2,c,h⟩:=f0 h;obtain⟨_,s,f,h⟩:=f0 h;cases h;have m:=Vf (b.vl _ _) n _ c;exact .decl k (X4 g) (λi d=>by rw[gn.1 d];exact m) Qh Qh
   ·rename_i v
    obtain⟨_,s,f,h⟩:=f0 h;cases h;exact .decl k (X4 g) (λi d=>by cases d) Qh (λu=>absurd ⟨u,v⟩ r)
 ·unfold n3 at h;obtain⟨_,l,g,h⟩:=f0 h;obtain⟨o,i2,c,h⟩:=f0 h;obtain⟨A,O,rfl,z,v⟩:=uA b h;exact .func (X4 c) z v
 ·exact .Y6 (Zv b _ _ h)
 ·obtain⟨_,s,f,h⟩:=f0 h;cases h;exact .empty
 ·have k:RN (Qn a j).tx=7:=by simpa[oX] using p
  unfold Xd at h;rw[k] at h;obtain⟨n,l,g,h⟩:=f0 h;obtain⟨o,i2,c,h⟩:=f0 h;have q:=yh b t _ n l g;have m:=Vf (b.st _ _) o _ c
  split at h
  ·obtain⟨s2,s,f,h⟩:=f0 h;cases h;exact .qA q m (Vf (b.st _ _) s2 _ f)
  ·
   cases h;exact .lA q m
 ·have k:RN (Qn a j).tx=8\/RN (Qn a j).tx=9:=by simpa[oX] using p
  unfold UR at h;obtain⟨n,l,g,h⟩:=f0 h;obtain⟨o,i2,c,h⟩:=f0 h;cases h;exact .loop k (yh b t _ n l g) (Vf (b.st _ _) o _ c)
 ·have k:RN (Qn a j).tx=10\/RN (Qn a j).tx=11:=by simpa[oX] using p
  unfold XT at h
  split at h
  ·obtain⟨n,l,g,h⟩:=f0 h;obtain⟨_,i2,c,h⟩:=f0 h;cases h;have q:=Vf (b.vl _ _) n _ g;exact .h6 k (λi d=>by rw[gn.1 d];exact q) Qh Qh
  ·rename_i r
   obtain⟨_,i2,c,h⟩:=f0 h;cases h;exact .h6 k (λi d=>by cases d) Qh (λu=>absurd (fU u) r)
 ·unfold Wx at h;obtain⟨_,T,R,h⟩:=f0 h;obtain⟨O,l,g,h⟩:=f0 h;obtain⟨z,i2,c,h⟩:=f0 h;obtain⟨B,s,f,h⟩:=f0 h;have m:(∀i ∈ z,Tf (ke a) (kl a) (kq a) 7 i)/\z.length<=1:=by
   unfold qd at c
   split at c
   ·obtain⟨_,ad,H,c⟩:=f0 c;obtain⟨_,M,D,c⟩:=f0 c;obtain⟨_,N,L,c⟩:=f0 c;obtain⟨F,E,v,c⟩:=f0 c;cases c;exact⟨λi d=>by rw[gn.1 d];exact .cat (X4 D) (Zv b _ _ v),by simp⟩
   ·
    cases c;exact⟨λi d=>(by cases d),by simp⟩
  have A:(∀i ∈ B,Tf (ke a) (kl a) (kq a) 8 i)/\B.length<=1:=by
   unfold Xt at f
   split at f
   ·obtain⟨F,E,v,f⟩:=f0 f;cases f;exact⟨λi d=>by rw[gn.1 d];exact .fin (Zv b _ _ v),by simp⟩
   ·
    cases f;exact⟨λi d=>(by cases d),by simp⟩
  split at h
  ·
   cases h
  ·rename_i r
   cases h;exact .mj (Zv b _ _ g) m.1 A.1 ⟨m.2,A.2,by omega⟩
def ag7 (c d:Nat):Kh a 1 (Si a e c d):=by
 unfold Si
 split
 ·rename_i f;exact X2 b c _ d (MU f)
 ·intro l k h;unfold nB at h;obtain⟨g,j,f,h⟩:=f0 h;obtain⟨_,i2,i,h⟩:=f0 h;cases h;exact .expr (Vf (b.vl _ _) g _ f)
omit b in
theorem aAA:∀d,Fl a (ig a d):=by
 intro d
 induction d with
 |zero=>exact⟨λ_ _ _ _ h=>by (cases h),λ_ _ _ _ h=>by (cases h),λ_ _ _ _ _ h=>by (cases h),λ_ _ _ _ h=>by (cases h),λ_ _ _ _ h=>by (cases h),λ_ _ _ _ _ h=>by (cases h),λ_ _ _ _ h=>by (cases h)⟩
 | succ d c=>exact⟨ag7 c,asv c,avY c,Rv c,λf i l k h=>by
   change V6 a (ig a d) f i=_ at h;unfold V6 at h;obtain⟨m,j,g,_⟩:=f0 h;exact c.bp _ _ _ _ _ g,λO f i l k h=>by
   change Yk a (ig a d) O f i=_ at h;unfold Yk at h;obtain⟨m,j,g,_⟩:=f0 h;exact c.bs _ _ _ _ g,aou⟩
def ajt:∀d c g f i,(∀x ∈ c,Tf (ke a) (kl a) (kq a) 1 x)->SQ a e d c g=.ok f i->∀x ∈ f,Tf (ke a) (kl a) (kq a) 1 x:=by
 intro d
 induction d with
 |zero=>intro c g f i _ h;cases h
 |succ d k=>
  intro c g f i j h;unfold SQ at h;exact FG
def RO:Kh a 9 (Wy a e):=by
 intro k j h;unfold Wy at h;obtain⟨d,i,g,h⟩:=f0 h;cases h;obtain⟨l,c,f⟩:=Ko 1 0 d;rw[f];exact .prog c (ajt b _ _ _ _ _ (λ_ h=>by cases h) g)
end
def Ca {d hB:List PS}{c:PS}{e:Tr}(h:Tj d hB c=.ok e):∃a,Vw d hB c (Qk TP c 0) []=.ok a/\Tf (ke a) (kl a) (kq a) 9 e:=by
 unfold Tj at h
 split at h
 ·
  cases h
 ·split at h
  ·
   cases h
  ·rename_i a f
   refine⟨a,f,?_⟩
   cases b:Wy a (ig a KK) with
   |out=>rw[b] at h;cases h
   |ga g i=>rw[b] at h;cases h
   |ok i g=>
    rw[b] at h;simp only at h
    split at h
    ·
     cases h
    ·
     cases h;exact RO (aAA _) _ _ b
def hz (a:Int):Nat:=if a=5\/a=37\/a=9 then 2 else if a=13\/a=24\/a=34\/a=35 then 1 else 0
def ar (a:Int)(bB:Nat):Nat:=if hz a<=bB then 0 else 1
mutual
def Tr.iA:Tr->Nat
 |.mk b _ _ a=>ar b a.length+Tr.np a
def Tr.np:List Tr->Nat
 |[]=>0
 |b::a=>b.iA+Tr.np a
end
def Vo (b:Int)(c:PS)(bB:Int)(a:List Tr):(Tr.mk b c bB a).iA=ar b a.length+Tr.np a:=by rw[Tr.iA]
def apl (a:Int):hz a<=2:=by
 unfold hz
 split
 ·omega
 ·split <;> omega
def Uv (a:Int)(bB:Nat)(h:2<=bB):ar a bB=0:=by
 unfold ar;rw[fY (gr (apl a) h)]
def Ym:Tr.np []=0:=by rw[Tr.np]
def Un (b:Tr)(a:List Tr):Tr.np (b::a)=b.iA+Tr.np a:=by rw[Tr.np]
def Hc:∀(c:List Tr),Tr.np c=0->∀b ∈ c,b.iA=0
 |[],_=>λb a=>absurd a Qh
 |e::d,h=>λb a=>by
  rw[Un] at h
  rcases gE.1 a with rfl|a
  ·omega
  ·exact Hc d Pv b a
def Zd (a:Tr)(h:a.iA=0):hz a.kd<=a.fS.length/\∀d ∈ a.fS,d.iA=0:=by
 cases a with
 |mk e f bB c=>
  rw[Vo] at h;refine⟨?_,Hc c Pv⟩;have b:ar e c.length=0:=Pv;unfold ar at b
  split at b
  ·assumption
  ·omega
def Uo:∀a:List Tr,(∀b ∈ a,b.iA=0)->Tr.np a=0
 |[],_=>Ym
 |d::a,h=>by rw[Un,h d (gt ..),Uo a (λb c=>h b (gO _ c))]
def Tf.iA {l n:PS->Prop}{m:Int->Prop}{k:Nat}{e:Tr}(h:Tf l n m k e):e.iA=0:=by
 induction h with
 |Y6 _ b=>exact b
 |call _ _ _ b a=>rw[Vo,Un,b,Uo _ a];rfl
 |decl c _ _ _ _ a=>rw[Vo,Uo _ a];rcases c with rfl|rfl|rfl <;> simp[ar,hz]
 |h6 c _ _ _ a=>rw[Vo,Uo _ a];rcases c with rfl|rfl <;> simp[ar,hz]
 |mj _ _ _ _ b g i=>
  rw[Vo,Un,b,Uo _ (λf j=>(gB.1 j).elim (g f) (i f))];simp[ar,hz]
 |obj _ _ a=>rw[Vo,Uo _ a];simp[ar,hz]
 |p9 _ _ a=>rw[Vo,Uo _ a];simp[ar,hz]
 |gG _ a=>rw[Vo,Uo _ a];simp[ar,hz]
 |body _ _ a=>rw[Vo,Uo _ a];simp[ar,hz]
 |prog _ _ a=>rw[Vo,Uo _ a];simp[ar,hz]
 |lit c=>rw[Vo,Ym];rcases c with rfl|rfl|rfl|rfl <;> simp[ar,hz]
 |one c _ b=>rw[Vo,Un,Ym,b];rcases c with rfl|rfl|rfl <;> simp[ar,hz]
 |two c _ _ b d=>rw[Vo,Un,Un,Ym,b,d,Uv _ _ Qh]
 |loop c _ _ b d=>rw[Vo,Un,Un,Ym,b,d];rcases c with rfl|rfl <;> simp[ar,hz]
 |_=>simp[Vo,Un,Ym,ar,hz, *]
def x5 {c b:List PS}{d:PS}{a:Tr}(h:Tj c b d=.ok a):a.iA=0:=by
 obtain⟨_,_,h⟩:=Ca h;exact h.iA
end
def lT (a:Tr)(b d c:Bool):Option Int:=
 if a.kd=1 then og a true
 else if a.kd=6 then og a c
 else if a.kd=5\/a.kd=37 then n0 a b
 else if a.kd=2\/a.kd=3\/a.kd=4 then i6 b a.tx
 else if a.kd=13 then Za a b
 else if a.kd=7\/a.kd=8\/a.kd=9 then mm a b
 else if a.kd=10 then (if d then none else some 6)
 else if a.kd=24 then (if (Rj a 0).kd=23 then i6 b (Rj a 0).tx else none)
 else if a.kd=34 then (if b&&(Rj a 0).kd==23 then some 1 else none)
 else none
section
variable (a:Tr)(e:Nat)(b l c:Bool)(w:Py)(h:UN w a e)(g:a.count<=20000)
include h g
def aIS (j:a.kd=1):PN 104 #[Pm e,Y7 b l c] w λd t=>d=PY (Wi (og a true))/\PG w t:=by
 have q{G}(h:G:=by
 have f:=Y9 a e true n L g;have p:=k.c0;have u:=k.c1;have i:=k.c2
 generalize og a true=m at f
 exact qs):=Pq h;exact nU
def aIT (j:a.kd=6):PN 104 #[Pm e,Y7 b l c] w λd t=>d=PY (Wi (og a c))/\PG w t:=by
 have q{G}(h:G:=by
 have f:=Y9 a e c n L g;have p:=k.c0;have u:=k.c1;have i:=k.c2
 generalize og a c=m at f
 exact qs):=Pq h;exact nU
def ME (j:a.kd=5)(v:2<=a.fS.length):PN 104 #[Pm e,Y7 b l c] w λd t=>d=PY (Wi (n0 a b))/\PG w t:=Fk
def Ny (j:a.kd=37)(v:2<=a.fS.length):PN 104 #[Pm e,Y7 b l c] w λd t=>d=PY (Wi (n0 a b))/\PG w t:=Fk
def aBx (j:a.kd=13)(v:1<=a.fS.length):PN 104 #[Pm e,Y7 b l c] w λd t=>d=PY (Wi (Za a b))/\PG w t:=by
 have q{G}(h:G:=by
 have f:=acY a e b l c n L v g;have p:=k.c0;have u:=k.c1;have i:=k.c2
 generalize Za a b=m at f
 exact qs):=Pq h;exact nU
def aIV (j:a.kd=7):PN 104 #[Pm e,Y7 b l c] w λd t=>d=PY (Wi (mm a b))/\PG w t:=vJ
def Z6 (j:a.kd=8):PN 104 #[Pm e,Y7 b l c] w λd t=>d=PY (Wi (mm a b))/\PG w t:=vJ
def Q3 (j:a.kd=9):PN 104 #[Pm e,Y7 b l c] w λd t=>d=PY (Wi (mm a b))/\PG w t:=vJ
def NA (j:a.kd=2):PN 104 #[Pm e,Y7 b l c] w λu E=>u=PY (Wi (i6 b a.tx))/\PG w E:=ut
def aIZ (j:a.kd=3):PN 104 #[Pm e,Y7 b l c] w λu E=>u=PY (Wi (i6 b a.tx))/\PG w E:=ut
def aI0 (j:a.kd=4):PN 104 #[Pm e,Y7 b l c] w λu E=>u=PY (Wi (i6 b a.tx))/\PG w E:=ut
def Q1 (j:a.kd=10):PN 104 #[Pm e,Y7 b l c] w λf d=>f=PY (Wi (if l then none else some 6))/\PG w d:=by
 have q{G}(h:G:=by
 have i:=k.c1;rw[o] at i s;clear h g D M j R C o
 cases l <;>
 ·exact vg):=Pq h;exact nU
def N2 (j:a.kd=24)(ah:1<=a.fS.length):PN 104 #[Pm e,Y7 b l c] w λu af=>u=PY (Wi (if (Rj a 0).kd=23 then i6 b (Rj a 0).tx else none))/\PG w af:=by
 have q{G}(h:G:=by
 have F:=s;obtain⟨aE,ay,O,rfl,aH,aJ,X⟩:=T.cell 0 Pv;rw[<-YC a 0 Pv] at X;obtain⟨aD,ak,N,_⟩:=X.cells;have A:=Y (λW=>Wl b l c (Rj a 0).tx W);have z:=Y (PV s N);have aI:=f1 z.out
 generalize (Rj a 0).tx=r at A z N
 generalize (Rj a 0).kd=ad at ak
 generalize a.fS.length=ax at R ah M
 generalize i6 b r=H at A
 clear h g D j C N
 by_cases E:ad=23
 ·subst E;simp only[hq];go_enter jW,jT;go_wp2_with fail;rw[<-o];have p:PG n n.drew:=RV.drew;refine wp_region_held (S:=λt=>PG n t) Qz ?_;refine l6 ?_;refine wh 0 (Pm O) p ?_;refine wh 1 (Pm O) p ?_;refine wh 2 (PZ O 1) p ?_;have q{G}(h:G:=by
  cases H <;>
  ·unfold Wi;go_wp2;go_ret;exact⟨rfl,F.trans (f.mono F.size)⟩):=Pq h;exact H0
 ·have d:(ad==23)=false:=by simpa using E
  simp only[fT E];rw[o] at F;clear E o;go_enter jW,jT;go_wp2;go_ret;exact⟨rfl,F⟩):=Pq h;exact nU
def P0 (j:a.kd=34)(m:1<=a.fS.length):PN 104 #[Pm e,Y7 b l c] w λp i=>p=PY (Wi (if b&&(Rj a 0).kd==23 then some 1 else none))/\PG w i:=by
 have q{G}(h:G:=by
 obtain⟨E,A,I,rfl,F,N,d⟩:=T.cell 0 Pv;rw[<-YC a 0 Pv] at d;obtain⟨B,v,f,_⟩:=d.cells
 generalize (Rj a 0).tx=r at f
 generalize (Rj a 0).kd=u at v
 generalize a.fS.length=z at R m M
 have t:=k.c0;rw[o] at t s;clear h g D j C f o
 cases b with
 |false=>
  exact vg
 |true=>
  cases H:(u==23) <;>
  ·exact vg):=Pq h;exact nU
omit g in
theorem LW (m:a.kd≠1/\a.kd≠6/\a.kd≠5/\a.kd≠37/\a.kd≠2/\a.kd≠3/\a.kd≠4/\a.kd≠13/\a.kd≠7/\a.kd≠8/\a.kd≠9/\a.kd≠10/\a.kd≠24/\a.kd≠34):PN 104 #[Pm e,Y7 b l c] w λC A=>C=PY (Wi none)/\PG w A:=by
 obtain⟨X,B,_,_⟩:=h.cells;have D:=(gi w.heap.size w).alloc Qq (.cells #[PD b,PD l,PD c] 112);clear h
 generalize a.kd=d at B m
 obtain⟨j,f,p,s,k,n,o,i,q,r,t,u,v,z⟩:=m;have T:(d==1)=false:=by simpa using j
 have O:(d==6)=false:=by simpa using f
 have N:(d==5)=false:=by simpa using p
 have L:(d==37)=false:=by simpa using s
 have U:(d==2)=false:=by simpa using k
 have ad:(d==3)=false:=by simpa using n
 have M:(d==4)=false:=by simpa using o
 have F:(d==13)=false:=by simpa using i
 have P:(d==7)=false:=by simpa using q
 have R:(d==8)=false:=by simpa using r
 have S:(d==9)=false:=by simpa using t
 have E:(d==10)=false:=by simpa using u
 have H:(d==24)=false:=by simpa using v
 have I:(d==34)=false:=by simpa using z
 clear j f p s k n o i q r t u v z;go_enter jW,jT;go_wp2;go_ret;exact⟨rfl,D⟩
def Yh (z:hz a.kd<=a.fS.length):PN 104 #[Pm e,Y7 b l c] w λd u=>d=PY (Wi (lT a b l c))/\PG w u:=by
 unfold lT
 by_cases r:a.kd=1
 ·rw[fY r];exact aIS a e b l c w h g r
 rw[fT r]
 by_cases s:a.kd=6
 ·rw[fY s];exact aIT a e b l c w h g s
 rw[fT s]
 by_cases j:a.kd=5\/a.kd=37
 ·rw[fY j];have q:hz a.kd=2:=by unfold hz;rw[fY (j.imp id fU)]
  rcases j with f|f
  ·exact ME a e b l c w h g f Pv
  ·exact Ny a e b l c w h g f Pv
 rw[fT j]
 by_cases i:a.kd=2\/a.kd=3\/a.kd=4
 ·rw[fY i]
  rcases i with f|f|f
  ·exact NA a e b l c w h g f
  ·exact aIZ a e b l c w h g f
  ·exact aI0 a e b l c w h g f
 rw[fT i];have q:∀m:Int,(m=13\/m=24\/m=34)->a.kd=m->1<=a.fS.length:=λm v d=>by
  have:hz a.kd=1:=by
   rw[d]
   rcases v with rfl|rfl|rfl <;> decide
  omega
 by_cases p:a.kd=13
 ·rw[fY p];exact aBx a e b l c w h g p (q _ Qh p)
 rw[fT p]
 by_cases k:a.kd=7\/a.kd=8\/a.kd=9
 ·rw[fY k]
  rcases k with f|f|f
  ·exact aIV a e b l c w h g f
  ·exact Z6 a e b l c w h g f
  ·exact Q3 a e b l c w h g f
 rw[fT k]
 by_cases t:a.kd=10
 ·rw[fY t];exact Q1 a e b l c w h g t
 rw[fT t]
 by_cases n:a.kd=24
 ·rw[fY n];exact N2 a e b l c w h g n (q _ Qh n)
 rw[fT n]
 by_cases o:a.kd=34
 ·rw[fY o];exact P0 a e b l c w h g o (q _ Qh o)
 rw[fT o];exact LW a e b l c w h ⟨r,s,λd=>j (fU d),λd=>j (f4 d),λd=>i (fU d),λd=>i (f4 (fU d)),λd=>i (f4 (f4 d)),p,λd=>k (fU d),λd=>k (f4 (fU d)),λd=>k (f4 (f4 d)),t,n,o⟩
end
def s2 (a:Tr)(b:Bool):Bool:=if Q7 a then (b||PU a)||PU (Rj a 1) else b||PU a
def i2 (b:Tr)(a:Bool):Bool:=if Q7 b then true else a
mutual
def hD:Tr->Bool->Bool->Bool->Option Int
 |.mk b d c a,f,e,g=>match lT (.mk b d c a) (s2 (.mk b d c a) f) (i2 (.mk b d c a) e) g with
  |some i=>some i
  |none=>Vk a (s2 (.mk b d c a) f) (i2 (.mk b d c a) e) (Q7 (.mk b d c a))
def Vk:List Tr->Bool->Bool->Bool->Option Int
 |[],_,_,_=>none
 |f::d,c,b,a=>match hD f c b a with
  |some e=>some e
  |none=>Vk d c b a
end
def qB (a:Tr)(c b d:Bool):hD a c b d=match lT a (s2 a c) (i2 a b) d with
  |some e=>some e
  |none=>Vk a.fS (s2 a c) (i2 a b) (Q7 a):=by
 cases a with
 |mk e i g f=>rw[hD];rfl
def Yi:∀(d:List Tr)(c b a:Bool)(e:Nat)(g:e<d.length),Vk (d.take e) c b a=none->hD d[e] c b a=none->Vk (d.take (e+1)) c b a=none
 |[],_,_,_,e,g=>absurd g Qh
 |i::d,c,b,a,0,_=>λ_ h=>by
  rw[jb,ix,Vk];rw[show hD i c b a=none from h];rw[Vk]
 |i::d,c,b,a,e+1,g=>λf j=>by
  rw[jb,Vk] at f ⊢
  cases h:hD i c b a with
  |some k=>rw[h] at f;cases f
  |none=>
   rw[h] at f;exact Yi d c b a e (by simpa using g) f j
def Zc:∀(d:List Tr)(c b a:Bool)(f:Nat)(i:f<d.length)(e:Int),Vk (d.take f) c b a=none->hD d[f] c b a=some e->Vk d c b a=some e
 |[],_,_,_,f,i,_=>absurd i Qh
 |j::d,c,b,a,0,_,e=>λ_ h=>by
  rw[Vk,show hD j c b a=some e from h]
 |j::d,c,b,a,f+1,i,e=>λg k=>by
  rw[jb,Vk] at g;rw[Vk]
  cases h:hD j c b a with
  |some e=>rw[h] at g;cases g
  |none=>
   rw[h] at g;exact Zc d c b a f (by simpa using i) e g k
abbrev jw (a:Nat)(d c b:Bool)(e:Py):Prop:=e.heap[a]?=some (Qb #[PD d,PD c,PD b] 112)
def jw.at {a:Nat}{d c b:Bool}{e:Py}(h:jw a d c b e):YX a d c b e:=⟨by rw[cell_of h];rfl,by rw[cell_of h];rfl,by rw[cell_of h];rfl⟩
def I2 (j:Nat):Prop:=∀(a:Tr),a.count<=j->a.iA=0->a.count<=20000->∀(e:Nat)(f d c:Bool)(b:Py),UN b a e ->
  PN 48 #[Pm e,Y7 f d c] b λi g=>i=PY (Wi (hD a f d c))/\PG b g
section
variable {bq:Nat}(aI:I2 bq)(a:Tr)(aY:a.count<=bq+1)(ae:a.iA=0)(ad:a.count<=20000)(g:Nat)(l O:Bool)(w:Py)(h:UN w a g)
include aI aY ae ad h
def SD (j:Q7 a=false):PN 48 #[Pm g,Y7 true l O] w λd f=>d=PY (Wi (hD a true l O))/\PG w f:=by
 have b{G}(h:G:=by
 obtain⟨N,H⟩:=Zd a ae;have al:s2 a true=true:=by unfold s2;rw[j];simp[]
 have ap:i2 a l=l:=by unfold i2;rw[j];rfl
 have o:=qB a true l O;have b{G}(h:G:=by
 have aX:=Y (λW (i:PG w W)=>Yh a g true l O W (cM W i) ad N);have aQ:Hid (∀W,PG w W->PN 102 #[Pm g] W λd f=>d=PY (PD false)/\f=W):=λW i=>uD
 have b{G}(h:G:=by
 have aD:Hid (∀(c:Nat)(k:c<a.fS.length)(e:Nat)(W:Py),UN W a.fS[c] e->PN 48 #[Pm e,Y7 true l false] W λd f=>d=PY (Wi (hD a.fS[c] true l false))/\PG W f):=λc k e W a7=>by
  have B:=UO a.fS c k;exact aI a.fS[c] Pv (H _ (gU _)) Pv e true l false W a7
 obtain⟨a8,z⟩:=xE (lT a true l O);obtain⟨aJ,u⟩:=xE (Vk a.fS true l false);rw[<-z,<-u] at o;simp only[<-z] at aX;rw[o];have ax:=Y u;have bE:=(gi w.heap.size w).alloc Qq (.cells #[PD true,PD l,PD O] 112);have b{G}(h:G:=by
 refine sq ?_;rintro d bi ⟨rfl,rfl⟩;go_wp2_with fail;obtain⟨aK,E⟩:=xE (w.alloc (.cells #[PD true,PD l,PD O] 112));have ay:PG w aK:=by rw[E];exact QK
 have aU:jw w.heap.size true l O aK:=by rw[E];exact Pz _ _
 have p:=Pj aX aK ay;rw[<-E];refine cm p ?_;rintro d X ⟨rfl,aR⟩;have F:jw w.heap.size true l O X:=(aR.block w.heap.size (fR aU)).trans aU;have M:=ay.trans (aR.mono ay.size);clear E
 cases a8 with
 |some d=>
  unfold Wi;go_wp2;go_ret;exact⟨rfl,M⟩
 |none=>
  have b{G}(h:G:=by
  obtain⟨L,A⟩:=xE (ah.setCell (Pn w.heap.size 2) (PD false));have a1:jw w.heap.size true l false L:=by rw[A,jw,gb F];rfl
  have b{G}(h:G:=by
  go_loopw [41] (λaE wr=>∃c:Nat,c<=a.fS.length/\aE=Ph c/\Vk (a.fS.take c) true l false=none/\PG L wr) (λaE _=>a.fS.length - (intOf aE).toNat)
  case atStart=>exact⟨0,ge _,rfl,by rw[ix,Vk],RV⟩
  case round=>
   obtain⟨c,k,rfl,aT,q⟩:=hrel;have C:=Y aT;clear aT
   by_cases n:c<a.fS.length
   ·obtain⟨bA,ba,e,s,bD,aH,aM⟩:=(aW.fQ q).cell c n;have b{G}(h:G:=by
    have bm:(c:Int)<(a.fS.length:Int):=Pv;have ak:jw w.heap.size true l false wr:=(q.block w.heap.size (fR a1)).trans a1;have b{G}(h:G:=by
    have R:=Y (λd=>Zc a.fS true l false c n d C.out);have U:=Y (Yi a.fS true l false c n C.out)
    generalize hD a.fS[c] true l false=aL at p R U
    exact sO):=Pq h;exact sL):=Pq h;exact Vt
   ·exact tR):=Pq h;exact D7):=Pq h;exact t7):=Pq h;exact tq):=Pq h;exact qq):=Pq h;exact qG):=Pq h;exact nI
def MW (j:Q7 a=true):PN 48 #[Pm g,Y7 true l O] w λd f=>d=PY (Wi (hD a true l O))/\PG w f:=by
 have b{G}(h:G:=by
 obtain⟨N,H⟩:=Zd a ae;have al:s2 a true=true:=by unfold s2;rw[j];simp[]
 have ap:i2 a l=true:=by unfold i2;rw[j];rfl
 have o:=qB a true l O;have b{G}(h:G:=by
 have aT:=Y (λW (i:PG w W)=>Yh a g true true O W (cM W i) ad N);have b{G}(h:G:=by
 have b{G}(h:G:=by
 have b{G}(h:G:=by
 have ay:=(gi w.heap.size w).alloc Qq (.cells #[PD true,PD l,PD O] 112);clear aY ae ad h D N H al ap cM z u o;go_enter func48,ntmps48;exact Jt):=Pq h;exact J3):=Pq h;exact qq):=Pq h;exact uT):=Pq h;exact qG):=Pq h;exact nI
def aBH (j:Q7 a=false):PN 48 #[Pm g,Y7 false l O] w λd f=>d=PY (Wi (hD a false l O))/\PG w f:=by
 have b{G}(h:G:=by
 obtain⟨N,H⟩:=Zd a ae;have al:s2 a false=(PU a):=by unfold s2;rw[j];simp[]
 have ap:i2 a l=l:=by unfold i2;rw[j];rfl
 have o:=qB a false l O;have b{G}(h:G:=by
 have aT:=Y (λW (i:PG w W)=>Yh a g (PU a) l O W (cM W i) ad N);have aQ:Hid (∀W,PG w W->PN 102 #[Pm g] W λd f=>d=PY (PD false)/\f=W):=λW i=>uD
 have ay:=Y (λW (i:PG w W)=>TG a g W (cM W i));have b{G}(h:G:=by
 have aD:Hid (∀(c:Nat)(k:c<a.fS.length)(e:Nat)(W:Py),UN W a.fS[c] e->PN 48 #[Pm e,Y7 (PU a) l false] W λd f=>d=PY (Wi (hD a.fS[c] (PU a) l false))/\PG W f):=λc k e W bi=>by
  have B:=UO a.fS c k;exact aI a.fS[c] Pv (H _ (gU _)) Pv e (PU a) l false W bi
 obtain⟨bm,z⟩:=xE (lT a (PU a) l O);obtain⟨aJ,u⟩:=xE (Vk a.fS (PU a) l false);rw[<-z,<-u] at o;simp only[<-z] at aT;rw[o];have ax:=Y u;have bS:=(gi w.heap.size w).alloc Qq (.cells #[PD false,PD l,PD O] 112)
 generalize PU a=E at aT ay aD ax
 have b{G}(h:G:=by
 refine yf ?_;rintro d bE ⟨rfl,rfl⟩;go_wp2_with fail;refine sq ?_;rintro d bD ⟨rfl,rfl⟩;go_wp2_with fail;obtain⟨aU,aE⟩:=xE (w.alloc (.cells #[PD E,PD l,PD O] 112));have aK:PG w aU:=by rw[aE];exact QK
 have a8:jw w.heap.size E l O aU:=by rw[aE];exact Pz _ _
 have p:=Pj aT aU aK;rw[<-aE];refine cm p ?_;rintro d X ⟨rfl,aX⟩;have F:jw w.heap.size E l O X:=(aX.block w.heap.size (fR a8)).trans a8;have M:=aK.trans (aX.mono aK.size);clear aE
 cases bm with
 |some d=>
  unfold Wi;go_wp2;go_ret;exact⟨rfl,M⟩
 |none=>
  have b{G}(h:G:=by
  obtain⟨L,A⟩:=xE (ah.setCell (Pn w.heap.size 2) (PD false));have ba:jw w.heap.size E l false L:=by rw[A,jw,gb F];rfl
  have b{G}(h:G:=by
  go_loopw [41] (λaR wr=>∃c:Nat,c<=a.fS.length/\aR=Ph c/\Vk (a.fS.take c) E l false=none/\PG L wr) (λaR _=>a.fS.length - (intOf aR).toNat)
  case atStart=>exact⟨0,ge _,rfl,by rw[ix,Vk],RV⟩
  case round=>
   obtain⟨c,k,rfl,a7,q⟩:=hrel;have C:=Y a7;clear a7
   by_cases n:c<a.fS.length
   ·obtain⟨bP,bA,e,s,bR,aH,aM⟩:=(aW.fQ q).cell c n;have b{G}(h:G:=by
    have bN:(c:Int)<(a.fS.length:Int):=Pv;have ak:jw w.heap.size E l false wr:=(q.block w.heap.size (fR ba)).trans ba;have b{G}(h:G:=by
    have R:=Y (λd=>Zc a.fS E l false c n d C.out);have U:=Y (Yi a.fS E l false c n C.out)
    generalize hD a.fS[c] E l false=aL at p R U
    exact sO):=Pq h;exact sL):=Pq h;exact Vt
   ·exact tR):=Pq h;exact D7):=Pq h;exact t7):=Pq h;exact tq):=Pq h;exact qq):=Pq h;exact qG):=Pq h;exact nI
def M1 (j:Q7 a=true)(aU:PU a=true):PN 48 #[Pm g,Y7 false l O] w λd f=>d=PY (Wi (hD a false l O))/\PG w f:=by
 have b{G}(h:G:=by
 obtain⟨N,H⟩:=Zd a ae;have al:s2 a false=true:=by unfold s2;rw[j];simp[aU]
 have ap:i2 a l=true:=by unfold i2;rw[j];rfl
 have o:=qB a false l O;have b{G}(h:G:=by
 have aT:=Y (λW (i:PG w W)=>Yh a g true true O W (cM W i) ad N);have b{G}(h:G:=by
 have ay:=Y (λW (i:PG w W)=>TG a g W (cM W i));have b{G}(h:G:=by
 have b{G}(h:G:=by
 have bo:=(gi w.heap.size w).alloc Qq (.cells #[PD false,PD l,PD O] 112);simp only[aU] at ay;have b{G}(h:G:=by
 refine yf ?_;rintro d bn ⟨rfl,rfl⟩;exact Jt):=Pq h;exact tq):=Pq h;exact J3):=Pq h;exact qq):=Pq h;exact uT):=Pq h;exact qG):=Pq h;exact nI
def aBJ (j:Q7 a=true)(a8:PU a=false):PN 48 #[Pm g,Y7 false l O] w λd f=>d=PY (Wi (hD a false l O))/\PG w f:=by
 have b{G}(h:G:=by
 obtain⟨N,H⟩:=Zd a ae;have al:s2 a false=(PU (Rj a 1)):=by unfold s2;rw[j];simp[a8]
 have ap:i2 a l=true:=by unfold i2;rw[j];rfl
 have o:=qB a false l O;have b{G}(h:G:=by
 have aU:=Y (λW (i:PG w W)=>Yh a g (PU (Rj a 1)) true O W (cM W i) ad N);have b{G}(h:G:=by
 have ay:=Y (λW (i:PG w W)=>TG a g W (cM W i));have b{G}(h:G:=by
 have a7:=Y (λ(e:Nat) (W:Py) (aE:UN W (Rj a 1) e)=>TG (Rj a 1) e W aE);have aD:Hid (∀(c:Nat)(k:c<a.fS.length)(e:Nat)(W:Py),UN W a.fS[c] e->PN 48 #[Pm e,Y7 (PU (Rj a 1)) true true] W λd f=>d=PY (Wi (hD a.fS[c] (PU (Rj a 1)) true true))/\PG W f):=λc k e W aE=>by
  have B:=UO a.fS c k;exact aI a.fS[c] Pv (H _ (gU _)) Pv e (PU (Rj a 1)) true true W aE
 obtain⟨bA,z⟩:=xE (lT a (PU (Rj a 1)) true O);obtain⟨aJ,u⟩:=xE (Vk a.fS (PU (Rj a 1)) true true);rw[<-z,<-u] at o;simp only[<-z] at aU;rw[o];have ax:=Y u;have bW:=(gi w.heap.size w).alloc Qq (.cells #[PD false,PD l,PD O] 112);simp only[a8] at ay
 generalize PU (Rj a 1)=E at aU aD ax a7
 have b{G}(h:G:=by
 refine yf ?_;rintro d bP ⟨rfl,rfl⟩;go_wp2_with fail;refine sq ?_;rintro d ba ⟨rfl,rfl⟩;go_wp2_with fail;refine cm (Pj bF j _ ((gi w.heap.size w).alloc Qq _)) ?_;rintro d ba ⟨⟨e,rfl,aE⟩,rfl⟩;have p:=Pj a7 e _ aE;go_wp2_with fail;refine cm p ?_;rintro d ba ⟨rfl,rfl⟩;go_wp2_with fail;obtain⟨aW,aK⟩:=xE (w.alloc (.cells #[PD E,PD true,PD O] 112));have aR:PG w aW:=by rw[aK];exact QK
 have bn:jw w.heap.size E true O aW:=by rw[aK];exact Pz _ _
 have p:=Pj aU aW aR;rw[<-aK];refine cm p ?_;rintro d X ⟨rfl,bi⟩;have F:jw w.heap.size E true O X:=(bi.block w.heap.size (fR bn)).trans bn;have M:=aR.trans (bi.mono aR.size);clear aK
 cases bA with
 |some d=>
  unfold Wi;go_wp2;go_ret;exact⟨rfl,M⟩
 |none=>
  have b{G}(h:G:=by
  obtain⟨L,A⟩:=xE (ah.setCell (Pn w.heap.size 2) (PD true));have bo:jw w.heap.size E true true L:=by rw[A,jw,gb F];rfl
  have af:PG w L:=xl
  have b{G}(h:G:=by
  go_loopw [41] (λaT wr=>∃c:Nat,c<=a.fS.length/\aT=Ph c/\Vk (a.fS.take c) E true true=none/\PG L wr) (λaT _=>a.fS.length - (intOf aT).toNat)
  case atStart=>exact⟨0,ge _,rfl,by rw[ix,Vk],RV⟩
  case round=>
   obtain⟨c,k,rfl,bm,q⟩:=hrel;have C:=Y bm;clear bm
   by_cases n:c<a.fS.length
   ·obtain⟨bS,bN,e,s,bU,aH,aM⟩:=(aX.fQ q).cell c n;have b{G}(h:G:=by
    have bR:(c:Int)<(a.fS.length:Int):=Pv;have ak:jw w.heap.size E true true wr:=(q.block w.heap.size (fR bo)).trans bo;have b{G}(h:G:=by
    have R:=Y (λd=>Zc a.fS E true true c n d C.out);have U:=Y (Yi a.fS E true true c n C.out)
    generalize hD a.fS[c] E true true=aL at p R U
    exact sO):=Pq h;exact sL):=Pq h;exact Vt
   ·exact tR):=Pq h;exact GI):=Pq h;exact t7):=Pq h;exact tq):=Pq h;exact qq):=Pq h;exact uT):=Pq h;exact qG):=Pq h;exact nI
end
def SU:∀l,I2 l:=by
 intro l
 induction l with
 |zero=>
  exact xY
 |succ l f=>
  intro a d i c j n g e k h
  cases n with
  |true=>
   cases b:Q7 a with
   |true=>exact MW f a d i c j g e k h b
   |false=>exact SD f a d i c j g e k h b
  |false=>
   cases b:Q7 a with
   |false=>exact aBH f a d i c j g e k h b
   |true=>
    cases m:PU a with
    |true=>exact M1 f a d i c j g e k h b m
    |false=>exact aBJ f a d i c j g e k h b m
def CS (a:Tr)(e:Nat)(c b:Bool)(d:Py)(h:UN d a e)(j:a.iA=0)(f:a.count<=20000):PN 26 #[Pm e,PD c,PD b] d λi k=>i=PY (Wi (hD a c b false))/\PG d k:=by
 have g:=SU a.count a Qq j f e c b false d h;clear h j f
 generalize hD a c b false=m at g
 cases m <;>
 ·go_enter func26,ntmps26;go_wp2_with fail;refine cm g ?_;rintro i n ⟨rfl,l⟩;unfold Wi;go_wp2;go_ret;exact⟨rfl,l⟩
namespace Hp
instance:DecidableEq Va:=λa b=>decidable_of_iff (a.k=b.k/\a.n=b.n/\a.s=b.s) ⟨λ⟨e,c,d⟩=>by cases a;cases b;simp_all,λh=>by subst h;exact⟨rfl,rfl,rfl⟩⟩
def vU:Va:=⟨0,0,PE⟩
def qX:Va:=⟨1,0,PE⟩
def Ri (a:Bool):Va:=⟨2,if a then 1 else 0,PE⟩
def Yo (a:Int):Va:=⟨3,a,PE⟩
def Xx (a:PS):Va:=⟨4,0,a⟩
def UU (a:Int):Va:=⟨5,a,PE⟩
def Va.jv (a:Va):Bool:=if a.k=0\/a.k=1 then false else if a.k=2\/a.k=3 then a.n != 0 else if a.k=4 then !decide (a.s=PE) else true
abbrev SK:PS:=⟨#[114,101,102,101,114,101,110,99,101]⟩
abbrev gJ:PS:=⟨#[116,121,112,101]⟩
abbrev Vp:PS:=⟨#[114,97,110,103,101]⟩
abbrev Vd:PS:=⟨#[115,121,110,116,97,120]⟩
abbrev Tt:PS:=⟨#[117,110,100,101,102,105,110,101,100]⟩
abbrev r9:PS:=⟨#[110,117,108,108]⟩
abbrev o4:PS:=⟨#[116,114,117,101]⟩
abbrev pa:PS:=⟨#[102,97,108,115,101]⟩
abbrev QY:PS:=⟨#[102,117,110,99,116,105,111,110]⟩
abbrev ZF:PS:=⟨#[111,98,106,101,99,116]⟩
abbrev Hv:PS:=⟨#[98,111,111,108,101,97,110]⟩
abbrev zV:PS:=⟨#[110,117,109,98,101,114]⟩
abbrev Kq:PS:=⟨#[115,116,114,105,110,103]⟩
abbrev ZG:PS:=⟨#[108,101,110,103,116,104]⟩
abbrev Xy:PS:=⟨#[112,114,105,110,116]⟩
def nG (a:Int):PS:=⟨(Lib.itoa a).toArray⟩
def Y0 (a b:PS):PS:=⟨(a.data.toList++b.data.toList).toArray⟩
def YU:List PS->PS
 |[]=>PE
 |[a]=>a
 |a::b=>Y0 a (Y0 ⟨#[32]⟩ (YU b))
def Mo.hE (b:Mo)(a:Va):PS:=
 if a.k=0 then Tt else if a.k=1 then r9 else if a.k=2 then (if a.jv then o4 else pa) else if a.k=3 then nG a.n else if a.k=4 then a.s else if a.k=5 then (if b.gA a.n≠0 then QY else ZF) else PE
inductive Er where
 |no
 |stop
 |Y3 (v:Va)
 |iZ
def mW (a:Int):Er:=if a=0 then .no else .iZ
abbrev ga (a:PS):Er:=.Y3 (Xx a)
abbrev Nd:=Option Nat×Tr
structure Fu where
 d:Nd
 scope:Int
 f3:Bool
structure Pl where
 scope:Int
 gh:Int
 f3:Bool
structure St where
 M:Mo
 hF:List PS
 steps:Nat
 seen:List (Int×Int)
 QL:List Int
 SE:List Fu
 fW:Nat
def Xe:Option Nat->List Tr->List Nd
 |_,[]=>[]
 |no,a::b=>(no,a)::Xe (no.map (· + a.count)) b
abbrev QA (a:Nd):List Nd:=Xe (a.1.map (· + 1)) a.2.fS
abbrev rP:Nd:=(none,.mk 22 PE 0 [])
abbrev Px (a:Nd)(b:Nat):Nd:=(QA a).getD b rP
def own (a:Nd):Int:=match a.1 with
 |some b=>b
 |none=>-3
def St.gv (a:St)(d b c:Int):St:={ a with M:=a.M.scope d b,QL:=a.QL++[c] }
abbrev St.gu (a:St):Int:=a.M.PL.length
def St.step (a:St):St:={ a with steps:=a.steps+1 }
def gd (b:Nd)(c:Pl)(a:St):Va×St:=
 (UU a.M.objs.length,{ a with SE:=a.SE++[⟨b,c.scope,c.f3||PU (Px b 1).2⟩],M:=a.M.Qo (3+a.SE.length) })
def St.ho (a:St)(d:Int)(c:PS)(b:Int)(e:Va):St:={ a with M:=(a.M.gc d c b e).2 }
def St.Ru (a:St)(c:Int)(b:PS)(d:Va)(fx:Bool):St:={ a with M:=(a.M.put c b d fx).2 }
def Xz (a:Nd)(b:Pl)(d:St):Va×St:=
 if a.2.tx=PE then gd a b d else
  let e:=d.gu
  let f:=d.gv b.scope (-1) (own a)
  let c:=gd a { b with scope:=e } f
  (c.1,c.2.ho e a.2.tx 3 c.1)
def settle (c:Int)(b:PS)(d:Va)(a:St):St:=
 if (a.M.gc c b 0 d).1=0 then a.ho c b 0 d else { a with M:=(a.M.write c b d).2 }
def Q5 (c:List Tr)(d:Int)(a:St):St:=c.foldl (λa b=>a.ho d b.tx (if b.kd=4 then 2 else 1) vU) a
def TK (a:Nd):List Nd:=(QA a).filter λb=>Uw b.2
def UF (e:Nd)(c:Pl)(a:St):St:=(TK e).foldl (λa b=>let d:=gd b c a;settle c.scope b.2.tx d.1 d.2) a
def Rf (b:Nd)(a:St):Pl×St:=
 let g:=(QF b.2).foldl (λa c=>if a.M.has 0 c then a else a.Ru 0 c vU true) a
 let f:=Q5 (Qi b.2) 1 g
 let d:Pl:=⟨1,0,PU b.2⟩
 (d,(TK b).foldl (λa c=>let e:=gd c d a;e.2.Ru 0 c.2.tx e.1 true) f)
def hasArgs (c:List Tr)(a:Tr):Bool:=!(c.any λb=>decide (b.tx=gL)) && !hasB (gp a false) gL
def Rx (c:List Va)(a:St):Va×St:=
 let b:Int:=a.M.objs.length
 let f:=({ a with M:=a.M.Qo 0 }:St).Ru b ZG (Yo c.length) false
 (UU b,(c.zipIdx).foldl (λa (e,d)=>a.Ru b (Y0 ⟨#[97]⟩ (nG d)) e false) f)
def S9 (e:Nd)(a:Pl)(d:List Va)(b:St):St:=
 let f:=(Px e 0).2.fS
 let c:=Px e 1
 let i:=(f.zipIdx).foldl (λb (l,k)=>settle a.scope l.tx (d.getD k vU) b) b
 let j:=if hasArgs f c.2 then let g:=Rx d i;g.2.ho a.scope gL 0 g.1 else i
 let m:=(QF c.2).foldl (λb k=>b.ho a.scope k 0 vU) j
 UF c a (Q5 (Qi c.2) a.scope m)
def QD (a:Nd)(b:Pl)(c:St):Pl×St:=
 if (gp a.2 false).length=0 then (b,c) else
  let e:=c.gu
  let d:={ b with scope:=e }
  (d,UF a d (Q5 (Qi a.2) e (c.gv b.scope (-1) (own a))))
def look (c:Nd)(e:Pl)(a:St):Int×St:=
 let b:=a.M.find e.scope c.2.tx
 (b,match c.1 with
  |some d=>if b≠-1 then { a with seen:=a.seen++[((d:Int),a.QL.getD b.toNat 0)] } else a
  |none=>a)
def XA (e:Int)(c:PS)(d:Va)(f3:Bool)(b:St):Er×St:=
 if f3 then (ga SK,b) else
  let a:=b.M.SX e
  (mW (b.M.put (if a = -1 then 0 else a) c d false).1,b.Ru (if a = -1 then 0 else a) c d false)
def iH (d:Int)(c:PS)(e:Va)(f3:Bool)(f:St):Er×St:=
 let a:=f.M.write d c e
 let b:St:={ f with M:=a.2 }
 if a.1=7 then XA d c e f3 b else if a.1=6 then (ga SK,b) else if a.1=1 then (ga gJ,b) else if a.1=5 then (if f3 then ga gJ else .no,b) else (.no,b)
def WE (b:Mo)(a:Va):PS:=if a.k=0 then Tt else if a.k=2 then Hv else if a.k=3 then zV else if a.k=4 then Kq else if a.k=5/\b.gA a.n≠0 then QY else ZF
def VR (a:Int):Va×Er:=if a < -1000000000\/1000000000<a then (vU,ga Vp) else (Yo a,.no)
def XB (d:Mo)(c:Int)(a b:Va):Va×Er:=
 if c=27 then (Ri (decide (a=b)),.no)
 else if a.k=3/\b.k=3 then (if c=28 then (Ri (decide (a.n<b.n)),.no) else if c=29 then VR (a.n+b.n) else if c=30 then VR (a.n - b.n) else VR (a.n * b.n))
 else if c=29/\(a.k=4\/b.k=4) then (if 500<(d.hE a).size+(d.hE b).size then (vU,ga Vp) else (Xx (Y0 (d.hE a) (d.hE b)),.no))
 else if c=28/\a.k=4/\b.k=4 then (Ri (decide (a.s.data.toList<b.s.data.toList)),.no)
 else (vU,ga gJ)
structure Oc where
 ret:Bool
 v:Va
abbrev SG:Oc:=⟨false,vU⟩
structure Fx where
 v:Nd->Pl->St->(Va×Er)×St
 s:Nd->Pl->Option Va->St->(Oc×Er×Option Va)×St
section
variable (b:Fx)
def Vq (e:Pl):List Nd->List Va->St->(List Va×Er)×St
 |[],a,c=>((a,.no),c)
 |g::f,a,c=>match b.v g e c with
  |((i,.no),d)=>Vq e f (a++[i]) d
  |((_,i),d)=>(([],i),d)
def Ti (f:Pl):List Nd->Option Va->St->(Oc×Er×Option Va)×St
 |[],a,c=>((SG,.no,a),c)
 |j::i,a,c=>match b.s j f a c with
  |((e,.no,d),g)=>if e.ret then ((e,.no,d),g) else Ti f i d g
  |d=>d
def within (a:St)(d:St->(Va×Er)×St):(Va×Er)×St:=
 if a.fW=40 then ((vU,ga Vp),a) else
  let c:=d { a with fW:=a.fW+1 }
  (c.1,{ c.2 with fW:=c.2.fW - 1 })
def XC (a:Fu)(g:List Va)(c:St):(Va×Er)×St:=within c λc=>
 let f:=c.gu
 let i:=c.gv a.scope (-1) (own a.d)
 let e:Pl:=⟨f,f,a.f3⟩
 let d:=Ti b e (QA (Px a.d 1)) none (S9 a.d e g i)
 ((d.1.1.v,d.1.2.1),d.2)
def Uf (a:Tr):List PS:=QF a++(Ue a).map Tr.tx
def oL (c:Mo)(d:PS)(stop:Int):Nat->Int->Bool
 |0,_=>false
 |e+1,a=>if a = -1 then false else if c.kindOf a d=1\/c.kindOf a d=2 then true else if a=stop then false else oL c d stop e (c.hJ a)
def hidden (a:Mo)(e:Tr)(c:Pl):Bool:=(Uf e).any λd=>oL a d c.gh (a.PL.length+1) c.scope
def gP (c:Int)(d:PS)(a:St):St:=if a.M.has c d then a else if a.M.SX c≠-1 then a.Ru (a.M.SX c) d vU false else a.ho c d 4 vU
def P5 (c:Nd)(d:Pl)(a:St):Pl×St:=
 let f:=(Uf c.2).foldl (λa g=>gP d.gh g a) a
 let e:Pl×St:=if 0<(Qi c.2).length then ({ d with scope:=f.gu },Q5 (Qi c.2) f.gu (f.gv d.scope (-1) (-3))) else (d,f)
 (e.1,(TK c).foldl (λa i=>let g:=gd i e.1 a;{ g.2 with M:=(g.2.M.write e.1.gh i.2.tx g.1).2 }) e.2)
def X6 (c:Nd)(d:Pl)(a:St):(Va×Er)×St:=
 let f:=d.f3||PU c.2
 if !f&&hidden a.M c.2 { d with f3:=f } then ((vU,ga Vd),a) else
  let i:Pl×St:=if f then (⟨a.gu,a.gu,true⟩,a.gv d.scope (-1) (-3)) else ({ d with f3:=f },a)
  let g:=P5 c i.1 i.2
  let e:=Ti b g.1 (QA c) (some vU) g.2
  match e.1.2.1 with
  |.no=>((e.1.2.2.getD vU,.no),e.2)
  |j=>((vU,j),e.2)
def Yp (callee:Tr)(g:Pl)(f:List Va)(a:St):(Va×Er)×St:=
 match f with
 |[]=>((vU,.no),a)
 |c::_=>if c.k≠4 then ((c,.no),a) else
  let d:Pl:=if callee.kd≠23\/callee.tx≠TQ then ⟨1,0,false⟩ else g
  within a λa=>match Tj RS Rq c.s with
   |.ok e=>match hD e d.f3 false false with
    |none=>X6 b (none,e) d a
    |some _=>((vU,ga Vd),a)
   |_=>((vU,ga Vd),a)
def Zk (e:Nd)(g:Pl)(j:St):(Va×Er)×St:=
 match Vq b g (QA e) [] j with
 |((f::d,.no),a)=>
  if f.k≠5 then ((vU,ga gJ),a) else
  let c:=a.M.gA f.n
  if c=0 then ((vU,ga gJ),a)
  else if c=1 then ((vU,.no),{ a with hF:=a.hF++[YU (d.map a.M.hE)] })
  else if c=2 then Yp b (Px e 0).2 g d a
  else match a.SE[(c - 3).toNat]? with
   |some i=>XC b i d a
   |none=>((vU,.no),a)
 |((_,c),a)=>((vU,c),a)
def UW (d:Nd)(e:Pl)(f:St):(Int×Er)×St:=match b.v d e f with
 |((c,.no),a)=>if c.k≠5 then ((-1,ga gJ),a) else ((c.n,.no),a)
 |((_,c),a)=>((-1,c),a)
def k3 (f:Pl)(a:Int):List Nd->St->(Va×Er)×St
 |[],c=>((UU a,.no),c)
 |e::i,c=>match b.v (Px e 0) f c with
  |((g,.no),d)=>k3 f a i (d.Ru a e.2.tx g false)
  |((_,g),d)=>((vU,g),d)
def oG (i:Nd)(g:Pl)(l:St):(Va×Er)×St:=
 let c:=Px i 0
 if c.2.kd=36 then
  match b.v (Px c 0) g l with
  |((j,.no),a)=>match b.v (Px i 1) g a with
   |((d,.no),e)=>if j.k≠5 then ((vU,ga gJ),e) else ((d,mW (e.M.put j.n c.2.tx d false).1),e.Ru j.n c.2.tx d false)
   |((_,f),e)=>((vU,f),e)
  |((_,f),a)=>((vU,f),a)
 else
  let k:=look c g l
  match b.v (Px i 1) g k.2 with
  |((d,.no),a)=>let e:=iH k.1 c.2.tx d g.f3 a;((d,e.1),e.2)
  |((_,f),a)=>((vU,f),a)
def mc (i:Nd)(f:Pl)(e:St):(Va×Er)×St:=
 let c:=Px i 0
 if c.2.kd=23 then
  let d:=e.M.drop (e.M.find f.scope c.2.tx) c.2.tx
  ((Ri d.1,.no),{ e with M:=d.2 })
 else if c.2.kd=36 then
  match UW b (Px c 0) f e with
  |((j,.no),a)=>let d:=a.M.cut j c.2.tx;if !d.1&&f.f3 then ((vU,ga gJ),{ a with M:=d.2 }) else ((Ri d.1,.no),{ a with M:=d.2 })
  |((_,g),a)=>((vU,g),a)
 else match b.v c f e with
  |((_,.no),a)=>((Ri true,.no),a)
  |((_,g),a)=>((vU,g),a)
def ZQ (e:Nd)(f:Pl)(m:St):(Va×Er)×St:=
 let c:=m.step
 let a:=e.2
 if 20000<c.steps then ((vU,.stop),c)
 else if a.kd=17 then ((Yo a.n,.no),c)
 else if a.kd=18 then ((Xx a.tx,.no),c)
 else if a.kd=19\/a.kd=20 then ((Ri (decide (a.kd=19)),.no),c)
 else if a.kd=21 then ((qX,.no),c)
 else if a.kd=23 then
  let g:=look e f c
  let x:=g.2.M.read g.1 a.tx
  if x.2=0 then ((x.1,.no),g.2) else ((vU,ga SK),g.2)
 else if a.kd=24 then oG b e f c
 else if a.kd=25\/a.kd=26 then match b.v (Px e 0) f c with
  |((j,.no),d)=>if j.jv=decide (a.kd=25) then ((j,.no),d) else b.v (Px e 1) f d
  |g=>g
 else if 27<=a.kd/\a.kd<=31 then match Vq b f (QA e) [] c with
  |((k::l::_,.no),d)=>(XB d.M a.kd k l,d)
  |((_,i),d)=>((vU,i),d)
 else if a.kd=32 then match b.v (Px e 0) f c with
  |((j,.no),d)=>((Ri (!j.jv),.no),d)
  |((_,i),d)=>((vU,i),d)
 else if a.kd=33 then
  if (Px e 0).2.kd=23/\c.M.find f.scope (Px e 0).2.tx = -1 then ((Xx Tt,.no),c)
  else match b.v (Px e 0) f c with
   |((j,.no),d)=>((Xx (WE d.M j),.no),d)
   |((_,i),d)=>((vU,i),d)
 else if a.kd=34 then mc b e f c
 else if a.kd=35 then Zk b e f c
 else if a.kd=36 then match UW b (Px e 0) f c with
  |((k,.no),d)=>((((d.M.gQ k a.tx).map Pr.v).getD vU,.no),d)
  |((_,i),d)=>((vU,i),d)
 else if a.kd=37 then let g:=Xz e f c;((g.1,.no),g.2)
 else if a.kd=38 then k3 b f c.M.objs.length (QA e) { c with M:=c.M.Qo 0 }
 else ((vU,.no),c)
def U5 (c:List Nd)(e:Pl)(a:St):(Va×Er)×St:=match c with
 |[]=>((vU,.no),a)
 |d::_=>b.v d e a
def Zl (d:Nd)(e:Pl):Nat->Option Va->St->(Oc×Er×Option Va)×St
 |0,a,f=>((SG,.stop,a),f)
 |k+1,a,f=>match b.v (Px d 0) e f with
  | ((l,.no),c)=>if l.jv then match b.s (Px d 1) e a c with
    |((j,.no,i),g)=>if j.ret then ((j,.no,i),g) else Zl d e k i g
    |g=>g
   else ((SG,.no,a),c)
  |((_,g),c)=>((SG,g,a),c)
def XP (a:Nd)(f:Pl)(i:Oc)(c:Er)(e:Option Va)(d:St):(Oc×Er×Option Va)×St:=match c with
 |.Y3 j=>
  let g:=d.gu
  b.s (Px a 0) { f with scope:=g } e ((d.gv f.scope (-1) (own a)).ho g a.2.tx 0 j)
 |c=>((i,c,e),d)
def V7 (j:Nd)(k:Pl)(f:Oc)(a:Er)(e:Option Va)(g:St):(Oc×Er×Option Va)×St:=match a with
 |.stop=>((f,.stop,e),g)
 |a=>match b.s (Px j 0) k e g with
  |((c,.no,d),i)=>if c.ret then ((c,.no,d),i) else ((f,a,d),i)
  |c=>c
def kX (i:Pl):List Nd->Oc->Er->Option Va->St->(Oc×Er×Option Va)×St
 |[],d,a,c,f=>((d,a,c),f)
 |g::j,d,a,c,f=>
  let e:=if g.2.kd=13 then XP b g i d a c f else V7 b g i d a c f
  kX i j e.1.1 e.1.2.1 e.1.2.2 e.2
def jB (fuel:Nat)(f:Nd)(d:Pl)(c:Option Va)(n:St):(Oc×Er×Option Va)×St:=
 let g:=n.step
 let e:=f.2
 if 20000<g.steps then ((SG,.stop,c),g)
 else if e.kd=2 then
  if e.fS.length=0 then ((SG,.no,c),g) else
  let o:=g.M.find d.scope e.tx
  match b.v (Px f 0) d g with
  |((i,.no),a)=>let l:=iH o e.tx i d.f3 a;((SG,l.1,c),l.2)
  |((_,j),a)=>((SG,j,c),a)
 else if e.kd=3\/e.kd=4 then match U5 b (QA f) d g with
  |((i,.no),a)=>((SG,mW (a.M.start d.scope e.tx i).1,c),{ a with M:=(a.M.start d.scope e.tx i).2 })
  |((_,j),a)=>((SG,j,c),a)
 else if e.kd=6 then let m:=QD f d g;Ti b m.1 (QA f) c m.2
 else if e.kd=7 then match b.v (Px f 0) d g with
  |((i,.no),a)=>if i.jv then b.s (Px f 1) d c a else if 2<e.fS.length then b.s (Px f 2) d c a else ((SG,.no,c),a)
  |((_,j),a)=>((SG,j,c),a)
 else if e.kd=8 then Zl b f d fuel c g
 else if e.kd=9 then match UW b (Px f 0) d g with
  |((l,.no),a)=>b.s (Px f 1) { d with scope:=a.gu } c (a.gv d.scope l (-2))
  |((_,j),a)=>((SG,j,c),a)
 else if e.kd=10 then match U5 b (QA f) d g with
  |((i,.no),a)=>((⟨true,i⟩,.no,c),a)
  |((i,j),a)=>((⟨false,i⟩,j,c),a)
 else if e.kd=11 then match b.v (Px f 0) d g with
  |((i,.no),a)=>((SG,.Y3 i,c),a)
  |((_,j),a)=>((SG,j,c),a)
 else if e.kd=12 then
  let k:=b.s (Px f 0) d c g
  kX b d (QA f).tail k.1.1 k.1.2.1 k.1.2.2 k.2
 else if e.kd=15 then match b.v (Px f 0) d g with
  |((i,.no),a)=>((SG,.no,c.map λ_=>i),a)
  |((_,j),a)=>((SG,j,c),a)
 else ((SG,.no,c),g)
end
def fx:Nat->Fx
 |0=>⟨λ_ _ a=>((vU,.stop),a),λ_ _ b a=>((SG,.stop,b),a)⟩
 |a+1=>⟨ZQ (fx a),jB (fx a) a⟩
def RU:St:=
 let a:=((⟨[],[]⟩:Mo).Qo 0).scope (-1) 0
 let b:=a.scope 0 (-1)
 let c:=((b.Qo 1).put 0 Xy (UU 1) false).2
 let d:=((c.Qo 2).put 0 TQ (UU 2) false).2
 ⟨d,[],0,[],[-1,0],[],0⟩
def Ui (c:Tr):Er×St:=
 let a:=Rf (some 0,c) RU
 let b:=Ti (fx 20002) a.1 (QA (some 0,c)) none a.2
 (b.1.2.1,b.2)
def tQ (a:Int)(b:Py):PN 106 #[Ph a] b λd c=>d=PY (vA (UU a))/\PG b c:=by
 go_enter func106,ntmps106
 go_wp2
 refine hp (v:=vA (UU a)) (by simp[results,results106,go_sem,UU]) rfl ⟨rfl,?_⟩;exact QK
def vL (a:Int)(b:Py):PN 253 #[Ph a] b λd c=>d=PY (vA (Yo a))/\PG b c:=by
 go_enter func253,ntmps253
 go_wp2
 refine hp (v:=vA (Yo a)) (by simp[results,results253,go_sem,Yo]) rfl ⟨rfl,?_⟩;exact QK
def ql (a:PS)(b:Py):PN 254 #[PI a] b λd c=>d=PY (vA (Xx a))/\PG b c:=by
 go_enter func254,ntmps254
 go_wp2
 refine hp (v:=vA (Xx a)) (by simp[results,results254,go_sem,Xx]) rfl ⟨rfl,?_⟩;exact QK
def WX (a:Bool)(b:Py):PN 255 #[PD a] b λd c=>d=PY (vA (Ri a))/\PG b c:=by
 cases a
 ·go_enter func255,ntmps255
  go_wp2
  refine hp (v:=vA (Ri false)) (by simp[results,results255,go_sem,Ri]) rfl ⟨rfl,?_⟩;exact QK
 ·go_enter func255,ntmps255
  go_wp2
  refine hp (v:=vA (Ri true)) (by simp[results,results255,go_sem,Ri]) rfl ⟨rfl,?_⟩;exact QK
def Yq (c:PS)(a:Py):PN 269 #[PI c] a λe d=>(∃b,e=PY (.iface 122 (PZ b 0))/\a.heap.size<=b/\d.heap[b]?=some (Qb #[Ph 4,Ph 0,PI c] 126))/\PG a d:=by
 have f:=ql c a;go_enter func269,ntmps269;go_wp2_with fail;refine cm f ?_;rintro e g ⟨rfl,b⟩;go_wp2;go_ret;refine⟨⟨g.heap.size,rfl,b.size,?_⟩,b.alloc b.size _⟩;exact Pz _ _
def FA (a:PS):a.toList.isEmpty=decide (a=PE):=by
 by_cases h:a=PE
 ·subst h;have b:PE.toList=[]:=by decide +kernel
  rw[b];simp
 ·have b:=VX (a:=PE) (c:=[]) rfl h;rw[hi h]
  cases c:a.toList with
  |nil=>rw[c] at b;cases b
  |cons _ _=>rfl
def Yr (e:Va)(l:Py):PN 132 #[vA e] l λn m=>n=PY (PD e.jv)/\PG l m:=by
 obtain⟨a,b,c⟩:=e
 by_cases i:a=0
 ·subst i;go_enter func132,ntmps132
  go_wp2
  go_ret;exact⟨rfl,QK⟩
 by_cases j:a=1
 ·subst j;go_enter func132,ntmps132
  go_wp2
  go_ret;exact⟨rfl,QK⟩
 by_cases f:a=2
 ·subst f;have d:Va.jv ⟨2,b,c⟩=(b != 0):=rfl;exact tS
 by_cases g:a=3
 ·subst g;have d:Va.jv ⟨3,b,c⟩=(b != 0):=rfl;exact tS
 by_cases k:a=4
 ·subst k;have d:Va.jv ⟨4,b,c⟩ = !c.toList.isEmpty:=by rw[FA];rfl
  exact tS
 have d:Va.jv ⟨a,b,c⟩=true:=by unfold Va.jv;simp[i,j,f,g,k]
 exact tS
def Yu (c:PO)(d:Py)(a:PO):Er->Prop
 |.no=>a=.nilIface
 |.stop=>a=c
 |.Y3 x=>∃b,a=.iface 122 (PZ b 0)/\d.heap[b]?=some (Qb #[Ph x.k,Ph x.n,PI x.s] 126)
 |.iZ=>a=.iface 34 (Ph 7)
def Yu.fQ {d:PO}{w w':Py}{e:PO}{a:Er}(h:Yu d w e a)(f:PG w w'):Yu d w' e a:=by
 cases a with
 |no=>exact h
 |stop=>exact h
 |iZ=>exact h
 |Y3 x=>
  obtain⟨c,g,b⟩:=h;exact⟨c,g,by rw[f.block c (fR b)];exact b⟩
def anu (n:PO)(a:Int)(c:¬ (a < -1000000000\/1000000000<a))(i:Py):PN 314 #[Ph a] i λd b=>(∃e,d=PY (.tuple #[vA (VR a).1,e])/\Yu n b e (VR a).2)/\PG i b:=by
 have g:VR a=(Yo a,.no):=by unfold VR;rw[fT c]
 rw[g];have p:¬ a < -1000000000:=λh=>c (fU h);have o:¬ a > 1000000000:=λh=>c (f4 h);have j:Hid (∀W,PN 253 #[Ph a] W λd b=>d=PY (vA (Yo a))/\PG W b):=λW=>vL a W;clear c g;go_enter func314,ntmps314;go_wp2_with fail;refine cm (Pj j _) ?_;rintro d u ⟨rfl,f⟩;obtain⟨m,k,l,e,t⟩:=ZP (f.mono Qh);have q:=e 0;have r:=e 1;have s:=e 2;clear e;go_wp2_with fail
 refine hp (v:=.tuple #[vA (Yo a),RI]) (by simp[results,results314,go_sem,m,k,l,Yo]) rfl ⟨⟨_,rfl,rfl⟩,?_⟩;exact hA (QK.trans (f.mono Qh)) Qq _ _ _
def akr (u:PO)(a:Int)(d:a < -1000000000\/1000000000<a)(i:Py):PN 314 #[Ph a] i λe c=>(∃b,e=PY (.tuple #[vA (VR a).1,b])/\Yu u c b (VR a).2)/\PG i c:=by
 have l:VR a=(vU,ga Vp):=by unfold VR;rw[fY d]
 rw[l];have p:Hid (∀W,PN 269 #[PI Vp] W λe c=>(∃b,e=PY (.iface 122 (PZ b 0))/\W.heap.size<=b/\c.heap[b]?=some (Qb #[Ph 4,Ph 0,PI Vp] 126))/\PG W c):=λW=>Yq Vp W;clear l;go_enter func314,ntmps314
 by_cases w:a < -1000000000
 all_goals
  have o:a < -1000000000\/a > 1000000000:=d;have k:¬ a < -1000000000->a > 1000000000:=λh=>d.resolve_left h
  try have z:=k w
  clear d o k;go_wp2_with fail;refine cm (Pj p _) ?_;rintro e E ⟨⟨b,rfl,n,m⟩,j⟩;obtain⟨t,q,s,f,D⟩:=ZP (j.mono Qh);have A:=f 0;have B:=f 1;have C:=f 2;have v:=Y m;have r:=Y n;clear f m n;go_wp2_with fail;refine hp (v:=.tuple #[vA vU,.iface 122 (PZ b 0)]) (by simp[results,results314,go_sem,t,q,s,vU]) rfl ⟨⟨_,rfl,b,rfl,?_⟩,?_⟩
  ·have g:b≠i.heap.size:=by have:=Pj r;simp at this;omega
   rw[gY _ _ _ _ g,gY _ _ _ _ g,gY _ _ _ _ g];exact Pj v
  ·exact hA (QK.trans (j.mono Qh)) Qq _ _ _
abbrev mR (a:St)(e c b d:PO)(f:Nat):List PO:=[e,Ph 0,QB,Ph (a.steps:Int),c,.map (some f),b,d,Ph (a.fW:Int),Ph 0,Ph 0,Ph 1]
section
variable {H:Nat}{R:List PO}{a:Py}{b:Mo}
include H R a b
def HP.cell {g i:PO}{k j:List PO}(h:HP H R a b g i k j)(c:Nat)(d:PO) :
  HP H (R.set c d) (a.setCell (Pn H (c+2)) d) b g i k j/\Qv [84] H a (a.setCell (Pn H (c+2)) d):=by
 have e:=h.gG;have f:Qv [84] H a (a.setCell (Pn H (c+2)) d):=Qv.setCell (Qv.of RV (Qe (gM e))) e Qh Qq _;refine⟨⟨?_,h.ob.f2 f PK PK,h.ro.f2 f PK PK⟩,f⟩;rw[hs a H (c+2) _ 84 _ e]
 congr 2
 apply Array.ext';simp
def QM.cell (h:QM H R a b)(c:Nat)(d:PO):QM H (R.set c d) (a.setCell (Pn H (c+2)) d) b/\Qv [84] H a (a.setCell (Pn H (c+2)) d):=by
 obtain⟨e,f,i,g,h⟩:=h;exact⟨⟨e,f,i,g,(h.cell c d).1⟩,(h.cell c d).2⟩
def QM.at_ (h:QM H R a b)(c:Nat)(e:PO)(f:R[c]?=some e):a.cell? (Pn H (c+2))=some e/\a.frozen? (Pn H (c+2))=false:=by
 obtain⟨g,i,k,j,h⟩:=h;have d:=h.gG;refine⟨?_,by simp[World.frozen?,d]⟩;simp[World.cell?,d,f]
end
def aqi {b i:Nat}{a:St}{g e d f l:PO}{c:Py}(h:QM b (mR a g e d f i) c a.M)(w:a.steps<=20000)(p:c.cell? (Pn 1 0)=some l)(v:1<b) :
  PN 107 #[PZ b 0] c λs m=>s=PY (if 20000<a.steps+1 then l else RI)/\QM b (mR a.step g e d f i) m a.M/\Qv [84] b c m:=by
 obtain⟨n,o⟩:=h.at_ 3 _ rfl;have z:c.cell? (Pn b 5)=some (Ph (a.steps:Int)):=n;have u:c.frozen? (Pn b 5)=false:=o;clear n o;have B:=h.lt;have k:=Y (h.cell 3 (Ph ((a.steps:Int)+1)));have q:(mR a g e d f i).set 3 (Ph ((a.steps:Int)+1))=mR a.step g e d f i:=rfl;rw[q] at k;have C:(c.setCell (Pn b 5) (Ph ((a.steps:Int)+1))).cell? (Pn 1 0)=some l:=by
  rw[gN (w:=c) (a:=(Pn 1 0)) (gY _ _ _ _ (show (1:Nat)≠b by omega))];exact p
 have A:1<c.heap.size:=Pv;clear h p q
 by_cases j:20000<a.steps+1
 ·rw[fY j];have r:(a.steps:Int)+1 > 20000:=Pv;clear j
  generalize a.steps=t at *
  go_enter func107,ntmps107;go_wp2;go_ret;exact⟨rfl,k.out⟩
 ·rw[fT j];have r:¬ (a.steps:Int)+1 > 20000:=Pv;clear j
  generalize a.steps=t at *
  go_enter func107,ntmps107;go_wp2;go_ret;exact⟨rfl,k.out⟩
end Hp
inductive Ad where
 |mk (p:Nat) (kd:Int) (tx:PS) (n:Int) (ks:List Ad)
def Ad.p:Ad->Nat |.mk a _ _ _ _=>a
def Ad.kd:Ad->Int |.mk _ a _ _ _=>a
def Ad.tx:Ad->PS |.mk _ _ a _ _=>a
def Ad.ks:Ad->List Ad |.mk _ _ _ _ a=>a
mutual
def Ad.tr:Ad->Tr
 |.mk _ a d c b=>.mk a d c (Ad.kB b)
def Ad.kB:List Ad->List Tr
 |[]=>[]
 |a::b=>a.tr::Ad.kB b
end
mutual
def Ad.TB:Ad->List Nat
 |.mk b _ _ _ a=>b::Ad.RQ a
def Ad.RQ:List Ad->List Nat
 |[]=>[]
 |a::b=>a.TB++Ad.RQ b
end
mutual
def Rl (a:Nat->Prop)(b:Py):Ad->Prop
 |.mk d e g f c=>QT a b (.mk e g f (Ad.kB c)) d/\a d/\(∃i,b.heap[d]?=some (Qu e g f i)/\qC a b i (c.map Ad.p))/\Sl a b c
def Sl (a:Nat->Prop)(b:Py):List Ad->Prop
 |[]=>True
 |c::d=>Rl a b c/\Sl a b d
end
def Sl.mem {d:Nat->Prop}{e:Py}:∀(a:List Ad),Sl d e a->∀b ∈ a,Rl d e b
 |[],_,_,h=>absurd h Qh
 |x::a,h,b,c=>by
  rw[Sl] at h
  rcases gE.1 c with rfl|c
  ·exact h.1
  ·exact Sl.mem a h.2 b c
mutual
def Rl.fQ {I:Nat->Prop}{w w':Py}(a:Uz I w w'):∀d:Ad,Rl I w d->Rl I w' d
 |.mk j l n m i,h=>by
  rw[Rl] at h ⊢;obtain⟨g,e,⟨k,c,b⟩,f⟩:=h;exact⟨QT.fQ a _ _ g,e,⟨k,by rw[a j e (fR c)];exact c,Qw a b.2 b.1,b.2⟩,Sl.fQ a i f⟩
def Sl.fQ {I:Nat->Prop}{w w':Py}(b:Uz I w w'):∀a:List Ad,Sl I w a->Sl I w' a
 |[],_=>by rw[Sl];trivial
 |c::a,h=>by
  rw[Sl] at h ⊢;exact⟨Rl.fQ b c h.1,Sl.fQ b a h.2⟩
end
mutual
def Rl.mono {f J:Nat->Prop}{d:Py}(a:∀b,f b->b<d.heap.size->J b):∀g:Ad,Rl f d g->Rl J d g
 |.mk n p r q m,h=>by
  rw[Rl] at h ⊢;obtain⟨l,k,⟨o,e,b⟩,j⟩:=h;exact⟨QT.mono a _ _ l,a n k (fR e),⟨o,e,b.1,λc i=>a c (b.2 c i) (Qm b.1 c i).1⟩,Sl.mono a m j⟩
def Sl.mono {d J:Nat->Prop}{c:Py}(e:∀b,d b->b<c.heap.size->J b):∀a:List Ad,Sl d c a->Sl J c a
 |[],_=>by rw[Sl];trivial
 |b::a,h=>by
  rw[Sl] at h ⊢;exact⟨Rl.mono e b h.1,Sl.mono e a h.2⟩
end
def qE:∀a:List Ad,Ad.kB a=a.map Ad.tr
 |[]=>by rw[Ad.kB];rfl
 |b::a=>by rw[Ad.kB,qE a];rfl
def Ad.Yb (a:Ad):a.tr.kd=a.kd/\a.tr.tx=a.tx/\a.tr.fS=a.ks.map Ad.tr:=by
 cases a with
 |mk e b f d c=>rw[Ad.tr,qE];exact⟨rfl,rfl,rfl⟩
def Rl.parts {b:Nat->Prop}{c:Py}{a:Ad}(h:Rl b c a):∀d ∈ a.ks,Rl b c d:=by
 cases a with
 |mk i f j g e=>rw[Rl] at h;exact Sl.mem e h.2.2.2
mutual
def QT.ad {e:Nat->Prop}{l:Py}:∀(k:Tr)(c:Nat),QT e l k c->∃b:Ad,b.tr=k/\b.p=c/\Rl e l b/\b.TB.Nodup/\∀d ∈ b.TB,e d
 |.mk t z v u,c,h=>by
  have s:=h;rw[QT] at h;obtain⟨f,A,w,a,q,m⟩:=h;obtain⟨i,j,n,r,p,g⟩:=P6.TB u w m;refine⟨.mk c t z v i,by rw[Ad.tr,qE,j],rfl,?_,?_,?_⟩
  ·rw[Rl,n,qE,j];exact⟨s,f,⟨A,a,q⟩,Sl.mono (λd a _=>a.1) i r⟩
  ·rw[Ad.TB,mZ];exact⟨λo=>(g c o).2 rfl,p⟩
  ·rw[Ad.TB];intro d a
   rcases gE.1 a with rfl|a
   ·exact f
   ·exact(g d a).1
def P6.TB {f:Nat->Prop}{k:Py}:∀(d:List Tr)(e:List Nat),P6 f k d e->∃b:List Ad,b.map Ad.tr=d/\b.map Ad.p=e/\Sl f k b/\(Ad.RQ b).Nodup/\∀c ∈ Ad.RQ b,f c
 |[],e,h=>by
  rw[P6] at h;subst h;exact⟨[],rfl,rfl,by rw[Sl];trivial,by rw[Ad.RQ];exact List.nodup_nil,by rw[Ad.RQ];intro c a;cases a⟩
 |B::d,e,h=>by
  rw[P6] at h;obtain⟨z,s,C,rfl,u,l⟩:=h;obtain⟨i,w,m,n,o,j⟩:=QT.ad B z u;obtain⟨b,r,q,t,A,g⟩:=P6.TB d s l;refine⟨i::b,by rw[hv,w,r],by rw[hv,m,q],?_,?_,?_⟩
  ·rw[Sl];exact⟨Rl.mono (λc a _=>a.1) i n,Sl.mono (λc a _=>a.1) b t⟩
  ·rw[Ad.RQ,ja];refine⟨o,A,λx p y v E=>?_⟩;have F:=(j x p).2;have D:=(g y v).2;omega
  ·rw[Ad.RQ];intro c a
   rcases gB.1 a with a|a
   ·exact(j c a).1
   ·exact(g c a).1
end
section
variable {c:Nat->Prop}{b:Py}{a:Ad}(h:Rl c b a)
include c b a h
def Rl.cells:c a.p/\a.p<b.heap.size/\b.cell? (Pn a.p 0)=some (Ph a.kd)/\b.cell? (Pn a.p 1)=some (PI a.tx) /\
  ∃d,b.cell? (Pn a.p 3)=some d/\qC c b d (a.ks.map Ad.p):=by
 cases a with
 |mk o l p n m=>
  rw[Rl] at h;obtain⟨_,g,⟨d,e,f⟩,_⟩:=h;obtain⟨i,j,_,k,_⟩:=gx e;exact⟨g,fR e,i,j,d,k,f⟩
def Rl.nat:QT c b a.tr a.p:=by
 cases a with
 |mk g d i f e=>rw[Rl] at h;rw[Ad.tr];exact h.1
end
mutual
def Ad.hU:Ad->Nat
 |.mk _ _ _ _ a=>1+Ad.g1 a
def Ad.g1:List Ad->Nat
 |[]=>0
 |a::b=>a.hU+Ad.g1 b
end
mutual
def Ad.VU:∀a:Ad,a.tr.count=a.hU
 |.mk e c f d b=>by rw[Ad.tr,f9,Ad.hU,Ad.vh b]
def Ad.vh:∀a:List Ad,Tr.f5 (Ad.kB a)=Ad.g1 a
 |[]=>by rw[Ad.kB,Ad.g1,P8]
 |b::a=>by rw[Ad.kB,PW,Ad.g1,Ad.VU b,Ad.vh a]
end
mutual
def Ad.sA:∀a:Ad,a.TB.length=a.hU
 |.mk e c f d b=>by rw[Ad.TB,g4,Ad.xt b,Ad.hU,Nat.add_comm]
def Ad.xt:∀a:List Ad,(Ad.RQ a).length=Ad.g1 a
 |[]=>by rw[Ad.RQ,Ad.g1];rfl
 |b::a=>by rw[Ad.RQ,gg,Ad.sA b,Ad.xt a,Ad.g1]
end
def wO:∀b a:List Ad,Ad.RQ (b++a)=Ad.RQ b++Ad.RQ a
 |[],a=>by rw[Ad.RQ];rfl
 |x::b,a=>by rw[hR,Ad.RQ,Ad.RQ,wO b a,hI]
def Hf:∀b a:List Ad,Ad.g1 (b++a)=Ad.g1 b+Ad.g1 a
 |[],a=>by rw[Ad.g1,hy,h3]
 |x::b,a=>by rw[hR,Ad.g1,Ad.g1,Hf b a,jt]
def xK (a:Ad):1<=a.hU:=by cases a with|mk e b f d c=>rw[Ad.hU];omega
def zh:∀a:List Ad,a.length<=Ad.g1 a
 |[]=>ge _
 |b::a=>by
  have d:=xK b;have c:=zh a;rw[Ad.g1,g4];omega
def Xn:∀(b:List Ad)(a:Ad),a ∈ b->a.hU<=Ad.g1 b
 |[],_,h=>absurd h Qh
 |x::b,a,h=>by
  rw[Ad.g1]
  rcases gE.1 h with rfl|h
  ·omega
  ·have:=Xn b a h;omega
def qa (a:Ad):a.hU=1+Ad.g1 a.ks:=by cases a with|mk e b f d c=>rw[Ad.hU];rfl
def WS (a:Ad):a.TB=a.p::Ad.RQ a.ks:=by cases a with|mk e b f d c=>rw[Ad.TB];rfl
mutual
def wk {α:Type}(a:α->Ad->α×Bool):α->Ad->α
 |c,.mk f d g e b=>if (a c (.mk f d g e b)).2 then jg a (a c (.mk f d g e b)).1 b else (a c (.mk f d g e b)).1
def jg {α:Type}(b:α->Ad->α×Bool):α->List Ad->α
 |a,[]=>a
 |a,c::d=>jg b (wk b a c) d
end
def aHz {α:Type}(b:α->Ad->α×Bool)(c:α)(a:Ad):wk b c a=if (b c a).2 then jg b (b c a).1 a.ks else (b c a).1:=by
 cases a with
 |mk g d i f e=>rw[wk];rfl
def Cw {α:Type}(c:α->Ad->α×Bool):∀(d a:List Ad)(b:α),jg c b (d++a)=jg c (jg c b d) a
 |[],a,b=>by rw[hy,jg]
 |e::d,a,b=>by rw[hR,jg,jg,Cw c d a]
def W8 {α:Type}(c:α->Ad->α×Bool)(b:List Ad)(d:α)(a:Nat)(e:a<b.length):jg c d (b.take (a+1))=wk c (jg c d (b.take a)) b[a]:=by
 rw[ha e,Cw,jg,jg]
def aHO {α:Type}(t:Nat)(x:PO)(p:Nat->Prop)(f:Py->Py->Prop)(k:α->Py->Prop)(e:α->Ad->α×Bool)(P:α->List Ad->Prop)(bL:WU t)(bK:∀W:Py,(binOp .eql 47 (.func (.func t) #[] #[x]) .nilFunc).run prog W=.ok (PD false) W)(F:∀I O m,f I O->f O m->f I m)(H:∀w n,f w n->Uz p w n/\w.heap.size<=n.heap.size)(hP:∀I a c,P I (a::c)->P (e I a).1 ((if (e I a).2 then a.ks else [])++c))(N:∀I a c w,P I (a::c)->k I w->Rl p w a->PN t #[Pm a.p,x] w λj n=>j=PY (PD (e I a).2)/\k (e I a).1 n/\f w n) :
  ∀(o:Nat)(a:Ad),a.hU<=o->o<=90000->∀(c:List Ad)(I:α)(w:Py),P I (a::c)->k I w->Rl p w a ->
   PN 36 #[Pm a.p,.func (.func t) #[] #[x]] w λj n=>j=PY (.tuple #[])/\k (wk e I a) n/\P (wk e I a) c/\f w n:=Au
def Of {α:Type}(t:Nat)(x y:PO)(p:Nat->Prop)(f:Py->Py->Prop)(k:α->Py->Prop)(e:α->Ad->α×Bool)(P:α->List Ad->Prop)(bL:WU t)(bK:∀W:Py,(binOp .eql 47 (.func (.func t) #[] #[x,y]) .nilFunc).run prog W=.ok (PD false) W)(F:∀I O m,f I O->f O m->f I m)(H:∀w n,f w n->Uz p w n/\w.heap.size<=n.heap.size)(hP:∀I a c,P I (a::c)->P (e I a).1 ((if (e I a).2 then a.ks else [])++c))(N:∀I a c w,P I (a::c)->k I w->Rl p w a->PN t #[Pm a.p,x,y] w λj n=>j=PY (PD (e I a).2)/\k (e I a).1 n/\f w n) :
  ∀(o:Nat)(a:Ad),a.hU<=o->o<=90000->∀(c:List Ad)(I:α)(w:Py),P I (a::c)->k I w->Rl p w a ->
   PN 36 #[Pm a.p,.func (.func t) #[] #[x,y]] w λj n=>j=PY (.tuple #[])/\k (wk e I a) n/\P (wk e I a) c/\f w n:=Au
def s5 (a:(Nat×PO)×Nat):MapEntry:={ key:=Pm a.1.1,val:=a.1.2,born:=a.2 }
def XF (a:List (Nat×PO)):Array MapEntry:=((a.zipIdx).map s5).toArray
def Cl (W:Py)(b:Nat):Prop:=∃a c,W.heap[b]?=some (Qb a c)
def ML (W:Py):(sizeOf 40).run prog W=.ok 4 W:=by kernel_rfl
def AY {W:Py}{a b:Nat}(e:Cl W a)(d:Cl W b):(Op.equal 22 (Pm a) (Pm b)).run prog W=.ok (decide (a=b)) W:=by
 obtain⟨j,l,f⟩:=e;obtain⟨k,m,c⟩:=d;have i:=lK
 show (Op.equalIn (9999+1) 22 (Pm a) (Pm b)).run prog W=_
 rw[Op.equalIn,gW,hx i W];simp only[h5,gW,ML]
 by_cases h:a=b
 ·subst h;rw[hr rfl];exact run_sameAddr_same _ _
 ·rw[hi h];exact run_sameAddr_other W (a:=(Pn a 0)) (b:=(Pn b 0)) (λg=>h (by cases g;rfl)) f c
def Cq {W:Py}{d:Nat}(f:Cl W d):∀(b:List (Nat×PO))(e c:Nat),(∀a ∈ b,Cl W a.1)->
  ∃g,(Instr.findAsking 22 (Pm d) ((b.zipIdx e).map s5) c).run prog W=.ok g W/\g.map (·.2)=(b.find? (λa=>decide (d=a.1))).map (·.2)
 |[],_,_,_=>⟨none,rfl,rfl⟩
 |a::b,e,c,h=>by
  have j:=AY f (h a Qh);simp only[kE,hv,Instr.findAsking,s5,gW,j,h5,jq]
  cases k:decide (d=a.1)
  ·simp only[ic,ib];exact Cq f b (e+1) (c+1) (λa i=>h a (by simp[i]))
  ·exact⟨some (c,a.2),rfl,rfl⟩
def I9 {W:Py}{d:Nat}(g:Cl W d)(a:List (Nat×PO))(h:∀b ∈ a,Cl W b.1) :
  ∃c,(Instr.findKey 22 (Pm d) (XF a).toList).run prog W=.ok c W/\c.map (·.2)=(a.find? (λb=>decide (d=b.1))).map (·.2):=by
 have e:=lK
 cases a with
 |nil=>
  refine⟨none,?_,rfl⟩;unfold Instr.findKey;rw[gW,hx e W];rfl
 |cons b a=>
  obtain⟨c,i,f⟩:=Cq g (b::a) 0 0 h;refine⟨c,?_,f⟩;unfold Instr.findKey;rw[gW,hx e W];simp only[h5,XF];exact i
def ajQ (e g:Nat)(b:List (Nat×PO))(c:Nat)(W:Py)(j:W.heap[e]?=some (.map (XF b) g))(k:Cl W c)(l:∀a ∈ b,Cl W a.1) :
  (Instr.lookup 80 (.map (some e)) (Pm c) false).run prog W=.ok (((b.find? (λa=>decide (c=a.1))).map (·.2)).getD (Ph 0)) W:=An
def an9 (a:List (Nat×PO))(b:Nat)(c:PO):(XF a).push { key:=Pm b,val:=c,born:=a.length }=XF (a++[(b,c)]):=by
 unfold XF;rw[lW,hc];simp[s5,List.zipIdx]
def ak0 (c:Nat)(a:List (Nat×PO))(b:Nat)(j:PO)(W:Py)(f:W.heap[c]?=some (.map (XF a) a.length))(m:Cl W b)(r:∀d ∈ a,Cl W d.1)(o:a.find? (λd=>decide (b=d.1))=none) :
  (Instr.mapUpdate 80 (.map (some c)) (Pm b) j).run prog W=.ok () (Q8 W c (.map (XF (a++[(b,j)])) (a.length+1))):=by
 obtain⟨i,n,e⟩:=I9 m a r;have s:=lK;have k:=underlying80;have l:i=none:=by
  rw[o] at e
  cases i with
  |none=>rfl
  |some y=>simp at e
 subst l;have p:∀g,(Instr.checkKey g 10000 22 (Pm b)).run prog W=.ok () W:=by
  intro g;rw[Instr.checkKey,gW,hx s W];rfl
 have q:(getObj c).run prog W=.ok (.map (XF a) a.length) W:=by simp[getObj,Sem.run,f]
 unfold Instr.mapUpdate;rw[gW,hx k W];simp only[h5,gW,q,p,n];rw[an9];simp[setObj,Sem.run,f,Q8]
def Rp (a:List (Nat×PO)):(XF a).size=a.length:=by simp[XF]
def VZ (b:List Nat):List (Nat×PO):=b.zipIdx.map λa=>(a.1,Ph (a.2:Int))
def wo (a:List Nat):(VZ a).length=a.length:=by simp[VZ]
def aoa (a:List Nat)(b:Nat):VZ (a++[b])=VZ a++[(b,Ph (a.length:Int))]:=by
 simp[VZ,lW,List.zipIdx]
def Zf {b:List Nat}{a:Nat×PO}(h:a ∈ VZ b):a.1 ∈ b:=by
 unfold VZ at h;obtain⟨x,c,rfl⟩:=h4.1 h;obtain⟨d,e⟩:=x;have:=List.mem_zipIdx c;simp only;rw[this.2.2];exact gU _
def BO (a:Nat):∀(b:List Nat)(e:Nat),a ∈ b->(((b.zipIdx e).map λd=>(d.1,Value.int .i64 (d.2:Int))).find? (λd=>decide (a=d.1))).map (·.2)=some (Ph ((e+b.idxOf a:Nat):Int))
 |[],_,h=>absurd h Qh
 |x::b,e,h=>by
  rw[kE,hv,jq,List.idxOf_cons]
  by_cases c:a=x
  ·subst c;simp
  ·have f:a ∈ b:=by exact(gE.1 h).resolve_left c
   have g:(x==a)=false:=gT.2 (hV c);simp only[hi c,g];rw[BO a b (e+1) f];simp only[cond_false]
   congr 3
   omega
def OH {b:Nat}{a:List Nat}(h:b ∈ a):(((VZ a).find? (λc=>decide (b=c.1))).map (·.2)).getD (Ph 0)=Ph ((a.idxOf b:Nat):Int):=by
 unfold VZ;rw[BO b a 0 h,h3];rfl
def D8 {c:Nat}{b:List Nat}(h:c ∉ b):(VZ b).find? (λa=>decide (c=a.1))=none:=by
 rw[jQ];intro a d;have:=Zf d;simp only[nc];rintro rfl;exact h this
structure pX (mb nb:Nat)(l:List Nat)(w:Py):Prop where
 word:w.heap[nb]?=some (Qb #[.map (some mb)] 80)
 map:w.heap[mb]?=some (.map (XF (VZ l)) l.length)
 rI:∀p ∈ l,Cl w p
def qK (a:List Nat)(b:Ad):List Nat×Bool:=(a++[b.p],true)
mutual
def Ii:∀(d:Ad)(a:List Nat),wk qK a d=a++d.TB
 |.mk c e g f b,a=>by
  rw[wk,Ad.TB];simp only[qK,hq];rw[show (Ad.mk c e g f b).p=c from rfl,Bx b,hI];rfl
def Bx:∀(a:List Ad)(b:List Nat),jg qK b a=b++Ad.RQ a
 |[],b=>by rw[jg,Ad.RQ,iX]
 |c::a,b=>by rw[jg,Ii c,Bx a,Ad.RQ,hI]
end
def Rl.cl {d:Nat->Prop}{b:Py}{a:Ad}(h:Rl d b a):Cl b a.p:=by
 cases a with
 |mk i e j g f=>
  rw[Rl] at h;obtain⟨_,_,⟨k,c,_⟩,_⟩:=h;exact⟨_,_,c⟩
def Te {d f:Nat}{b:List Nat}{c:Ad}{m:Nat->Prop}{a:Py}(e:pX d f b a)(n:Rl m a c)(j:c.p ∉ b) :
  PN 73 #[Pm c.p,PZ f 0] a λk l=>k=PY (PD true)/\l=Q8 a d (.map (XF (VZ (b++[c.p]))) (b.length+1)):=by
 have q:a.cell? (Pn f 0)=some (.map (some d)):=by rw[cell_of e.word];rfl
 have i:=ak0 d (VZ b) c.p (Ph (b.length:Int)) a (by rw[wo];exact e.map) n.cl (λk o=>e.rI _ (Zf o)) (D8 j)
 rw[wo,<-aoa] at i;have p:(Builtin.len_ #[80] 3 #[.map (some d)]).run prog a=.ok (Ph (b.length:Int)) a:=by
  simp[Builtin.len_,getObj,Sem.run,e.map,Rp,wo,goInt]
 obtain⟨r,g⟩:=xE c.p;rw[<-g] at i ⊢;clear j g;go_enter func73,ntmps73;go_wp2;go_ret;exact⟨rfl,rfl⟩
def Cl.set {b:Py}{c d:Nat}{k:Obj}{i:Array MapEntry}{j:Nat}(h:Cl b d)(e:b.heap[c]?=some (.map i j)):Cl (Q8 b c k) d:=by
 obtain⟨f,l,a⟩:=h;refine⟨f,l,?_⟩;rw[RD (λg=>by rw[g,e] at a;cases a)]
 exact a
def pX.next {c d:Nat}{b:List Nat}{e:Nat}{f:Py}(h:pX c d b f)(g:Cl f e)(i:d≠c):pX c d (b++[e]) (Q8 f c (.map (XF (VZ (b++[e]))) (b.length+1))):=by
 refine⟨by rw[RD i];exact h.word,by rw[Xj (fR h.map),gg];rfl,λj a=>?_⟩
 rcases gB.1 a with a|a
 ·exact(h.rI j a).set h.map
 ·rw[gn.1 a];exact g.set h.map
def Ch {a c:Nat}(b:Py)(e:Obj):Ap a c b (Q8 b a e):=⟨rfl,rfl,rfl,by rw[WR];exact Qq,λf _ d=>RD d⟩
def RT:WU 73:=λ_ _=>by kernel_rfl
def DF {z:Nat->Prop}(b:Ad)(a:Py)(B:Rl z a b)(u:b.TB.Nodup)(p:b.hU<=90000) :
  PN 38 #[Pm b.p] a λn f=>(∃c,n=PY (.map (some c))/\a.heap.size<=c/\f.heap[c]?=some (.map (XF (VZ b.TB)) b.TB.length))/\PG a f:=by
 obtain⟨j,d⟩:=xE ((a.alloc (.map #[] 0)).alloc (.cells #[.map (some a.heap.size)] 80));have o:PG a j:=by
  rw[d];exact QK.alloc Qh _
 have H:j.heap.size=a.heap.size+2:=by rw[d];simp
 have q:(a.alloc (.map #[] 0)).heap.size=a.heap.size+1:=by simp
 have F:pX a.heap.size (a.heap.size+1) [] j:=by
  refine⟨?_,?_,λI e=>absurd e Qh⟩
  ·rw[d,<-q];exact Pz _ _
  ·rw[d,gy _ _ _ Qh];exact Pz _ _
 have g:=(aHO 73 (PZ (a.heap.size+1) 0) (λc=>c<a.heap.size+2/\c≠a.heap.size) (Ap a.heap.size (a.heap.size+2)) (pX a.heap.size (a.heap.size+1)) qK (λi l=>(i++Ad.RQ l).Nodup) RT (λW=>by kernel_rfl)
  (λ_ _ _ h r=>h.trans r) (λa f h=>⟨λc k _=>h.block c k.1 k.2,h.size⟩)
  (λi b l h=>by
   simp only[qK,hq];rw[Ad.RQ,WS] at h;rw[wO];simpa using h)
  (λi b l f h s r=>by
   have e:b.p ∉ i:=by
    rw[Ad.RQ,WS,ja] at h;exact λA=>h.2.2 _ A _ Qh rfl
   refine(Te s r e).mono ?_;rintro n m ⟨rfl,rfl⟩;exact⟨rfl,s.next r.cl Pv,Ch _ _⟩)
  b.hU b Qq p [] [] j (by rw[hy,Ad.RQ,Ad.RQ,iX];exact u) F
  (Rl.fQ (I:=λc=>c<a.heap.size+2/\c≠a.heap.size) (λc k v=>o.block c v) _ (Rl.mono (λc _ v=>⟨by omega,by omega⟩) _ B)))
 rw[Ii,hy] at g;obtain⟨I,e⟩:=xE b.p;rw[<-e] at g ⊢;rw[d] at g;have C:=Y d;have M:=mkMap 80;clear H q u p e d;go_enter func38,ntmps38;go_wp2_with fail;refine cm g ?_;rintro n m ⟨rfl,w,_,t⟩;have L:m.cell? (Pn (a.heap.size+1) 0)=some (.map (some a.heap.size)):=by rw[cell_of w.word];rfl
 have E:=Y w.map;rw[<-C.out] at t;have D:PG a m:=o.trans ((t.mono Pv).below Qq);go_wp2;go_ret;exact⟨⟨_,rfl,Qq,E.out⟩,D⟩
def N6 {i:Py}{b a c f:Nat}{g:PO}{e:Nat}{j:List PO}(h:i.ownsRow b c f g e j)(m:a<=b):i.ownsRow a c f g e j:=by
 obtain⟨d,k|⟨r,p,q,n,l,o⟩⟩:=h
 ·exact⟨d,fU k⟩
 ·exact⟨d,f4 ⟨r,p,q,n,gr m l,o⟩⟩
def anV {d:List Tk}{b:Ut}{e:Tr}{c:Nat}(h:Wy d b=.ok e c):∃a,SQ d b b.fuel [] 0=.ok a c/\e=VT (.mk 1 PE 0 a):=by
 unfold Wy at h;obtain⟨a,g,f,h⟩:=QG h;cases h;exact⟨a,f,rfl⟩
def arh (a:Tr):(VT a).kd=a.kd:=by unfold VT;split <;> rfl
def Xf {d c:List PS}{e:PS}{a:Tr}(h:Tj d c e=.ok a):a.kd=1/\a.count<=1500:=by
 unfold Tj at h
 split at h
 ·
  cases h
 ·split at h
  ·
   cases h
  ·split at h
   ·
    cases h
   ·rename_i b
    split at h
    ·
     cases h
    ·
     cases h;obtain⟨f,_,rfl⟩:=anV b;exact⟨arh _,by omega⟩
   ·
    cases h
def BL (e:qi)(b:Py)(c:Ending)(a:Py):Prop:=
 match e with
 |.ok f=>∃d,c=PY (.tuple #[Pm d,PD true])/\QT (gz b.heap.size) a f d/\PG b a
 |_=>c=PY (.tuple #[.pointer none,PD false])/\PG b a
def akS (d:qi)(n:PS)(w:Py)(c:∀e,d=.ok e->e.kd=1)(g:PN 15 #[PI n] w (qc d w)):PN 9 #[PI n] w (BL d w):=by
 cases d with
 |ok e=>
  have k:=c e rfl;clear c;go_enter func9,ntmps9;go_wp2_with fail;refine cm g ?_;rintro j f ⟨m,rfl,i,a⟩;obtain⟨r,q,l,_,_,_⟩:=i.qe;obtain⟨p,_,_,_,_⟩:=gx l;rw[k] at p;have b:=a;clear l k;go_wp2_with fail
  go_region
  go_wp2_with fail;exact Uj (v:=.tuple #[Pm m,PD true]) ⟨m,rfl,QT.fQ (I:=gz w.heap.size) (w:=f) (w':=f.drew) (λo _ _=>rfl) _ _ i,b.drew⟩
 |«at» i k=>
  clear c;go_enter func9,ntmps9;go_wp2_with fail;refine cm g ?_;rintro j f ⟨o,rfl,_,_,a⟩;have b:=a;go_wp2_with fail
  go_region
  go_wp2_with fail;exact Uj (v:=.tuple #[Rz,PD false]) ⟨rfl,b.drew⟩
 |bare=>
  clear c;go_enter func9,ntmps9;go_wp2_with fail;refine cm g ?_;rintro j f ⟨rfl,a⟩;have b:=a;go_wp2_with fail
  go_region
  go_wp2_with fail;exact Uj (v:=.tuple #[Rz,PD false]) ⟨rfl,b.drew⟩
def Dg (d b:List PS)(c:PS)(a:Py)(e:hK d b a)(i:∀g ∈ b,1<=g.size)(f:kM a):PN 9 #[PI c] a (BL (Tj d b c) a):=
 akS _ c a (λ_ h=>(Xf h).1) (jN d b c a e i f)
def LY (P:Tk->Prop)(f e:List PS)(a:PS)(v:∀c ∈ e,1<=c.size)(t:P ⟨6,⟨#[]⟩,0,a.size⟩)(hP:∀b j l k d,b<a.size->Xo f e a b=.tok j l k d->P ⟨j,l,k,b⟩):∀p b i o,a.size - b=p->b<=a.size->(∀g ∈ i,P g)->Vw f e a b i=.ok o->∀g ∈ o,P g:=by
 intro p
 induction p using Nat.strongRecOn with
 |ind p u=>
  intro b i o z A r h
  by_cases m:b<a.size
  ·
   cases n:Xo f e a b with
   |ga q s=>rw[wJ f e a b i q s m n] at h;cases h
   |tok j l k d=>
    have q:=Xa f e a b j k l d m v n;rw[TN f e a b i j k l d m n q.1] at h;have w:=Vx TP a d;have s:=UA TP a d q.2;refine u (a.size - Qk TP a d) Pv (Qk TP a d) _ o rfl s (λg c=>?_) h
    rcases gB.1 c with c|c
    ·exact r g c
    ·rw[gn.1 c];exact hP b j l k d m n
  ·rw[Zy f e a b i m] at h;cases h;intro g c
   rcases gB.1 c with c|c
   ·exact r g c
   ·rw[gn.1 c];exact t
abbrev Sm (a:PS):Prop:=a.size<=3000
abbrev Nb (a:Int):Prop:=-1000000000<=a/\a<=1000000000
def Rm (b:PS)(a:Nat)(d:a<=b.size):∀e ∈ (b.extract a (Qk RJ b a)).data.toList,RJ (e.toNat:Int)=true:=by
 have c:=UA RJ b a d;have f:=Vx RJ b a;have g:=extract_size b a (Qk RJ b a) Pv c;exact EX
def Ol {o f:List PS}{b:PS}(t:∀q ∈ f,1<=q.size)(u:b.size<=3000){c p:Nat}{g i:Int}{d:PS}(m:c<b.size)(a:Xo o f b c=.tok g d i p):(Sm d/\(g=1->d≠PE))/\Nb i:=by
 have j:=Xa o f b c g i d p m t a;have e:∀l n,(b.extract l n).size<=3000:=λl n=>by rw[ByteArray.size_extract];omega
 unfold Xo at a
 split at a
 ·unfold Vy at a
  split at a
  ·
   cases a;exact⟨⟨e _ _,(absurd · PK)⟩,by decide⟩
  ·split at a
   ·
    cases a
   ·
    cases a;exact⟨⟨e _ _,λ_ h=>absurd (extract_size b c _ (Qe j.1) j.2) (by rw[h];have:PE.size=0:=rfl;omega)⟩,by decide⟩
 ·split at a
  ·unfold rdNum at a
   split at a
   ·
    cases a
   ·split at a
    ·
     cases a
    ·split at a
     ·
      cases a
     ·rename_i r
      cases a;exact⟨⟨by show (0:Nat)<=3000;omega,by decide⟩,by have:=(wI _ (Rm b c (Qe m))).1;omega,by omega⟩
  ·split at a
   ·unfold rdStr at a
    split at a
    ·split at a
     ·
      cases a
     ·rename_i k
      cases a;exact⟨⟨by show (List.toArray _).size<=3000;rw[ll];omega,(absurd · PK)⟩,by decide⟩
    ·
     cases a
   ·unfold WT at a
    split at a
    ·rename_i q s
     cases a;have k:=mv s;unfold n9 at k;simp at k;have r:=e c b.size;exact⟨⟨by show d.size<=3000;omega,(absurd · PK)⟩,by decide⟩
    ·
     cases a
def Tf.mono {m o i k:PS->Prop}{n j:Int->Prop}(d:∀e,m e->i e)(r:∀e,o e->k e)(s:∀a,n a->j a){l:Nat}{p:Tr}(h:Tf m o n l p):Tf i k j l p:=by
 induction h with
 |name h=>exact .name (d _ h)
 |str h=>exact .str (r _ h)
 |num h=>exact .num (s _ h)
 |lit h=>exact .lit h
 |pN h _ a=>exact .pN (d _ h) a
 |call _ _ c a b=>exact .call a b c
 |one h _ a=>exact .one h a
 |two h _ _ a b=>exact .two h a b
 |iH h _ _ a b=>exact .iH h a b
 |obj _ c a=>exact .obj a c
 |lB h _ _ a b=>exact .lB (h.imp id (d _)) a b
 |gQ h _ a=>exact .gQ (d _ h) a
 |yx h=>exact .yx (d _ h)
 |p9 _ c a=>exact .p9 a c
 |gG _ a=>exact .gG a
 |body h _ a=>exact .body h a
 |decl q h _ c f a=>exact .decl q (d _ h) a c f
 |func h _ _ a b=>exact .func (d _ h) a b
 |Y6 _ a=>exact .Y6 a
 |lA _ _ a b=>exact .lA a b
 |qA _ _ _ a b g=>exact .qA a b g
 |loop h _ _ a b=>exact .loop h a b
 |h6 h _ c f a=>exact .h6 h a c f
 |mj _ _ _ c a b g=>exact .mj a b g c
 |cat h _ a=>exact .cat (d _ h) a
 |fin _ a=>exact .fin a
 |empty=>exact .empty
 |expr _ a=>exact .expr a
 |prog h _ a=>exact .prog h a
section
variable {k g:List PS}{c:PS}{b:Tr}(i:∀r ∈ g,1<=r.size)(h:Tj k g c=.ok b)
include k g c b i h
def Jj:Tf (λx=>Sm x/\x≠PE) Sm Nb 9 b:=by
 have n:c.size<=3000:=by
  unfold Tj at h
  split at h
  ·
   cases h
  ·omega
 obtain⟨e,p,o⟩:=Ca h;have l:=LY (λb=>(Sm b.tx/\(b.kd=1->b.tx≠PE))/\Nb b.n) k g c i ⟨⟨by show (0:Nat)<=3000;omega,λh=>absurd (show (6:Int)=1 from h) PK⟩,show Nb 0 by decide⟩ (λa s t q d j m=>Ol i n j m) _ _ _ _ rfl (UA TP c 0 (ge _)) (λb m=>by cases m) p
 have f:∀a,(Sm (Qn e a).tx/\((Qn e a).kd=1->(Qn e a).tx≠PE))/\Nb (Qn e a).n:=λa=>by
  unfold Qn;rw[hk]
  cases j:e[a]? with
  |none=>exact⟨⟨by show (0:Nat)<=3000;omega,by decide⟩,by decide⟩
  |some b=>exact l b (gC j)
 exact o.mono (λc ⟨a,m,d⟩=>d ▸ ⟨(f a).1.1,(f a).1.2 m⟩) (λc ⟨a,d⟩=>d ▸ (f a).1.1) (λq ⟨a,d⟩=>d ▸ (f a).2)
def OA:Tf Sm Sm Nb 9 b:=(Jj i h).mono (λ_ h=>h.1) (λ_ h=>h) (λ_ h=>h)
