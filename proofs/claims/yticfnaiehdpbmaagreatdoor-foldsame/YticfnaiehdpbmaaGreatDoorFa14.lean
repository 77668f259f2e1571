import Derived.Test.YticfnaiehdpbmaaGreatDoorFa8
import Derived.Test.YticfnaiehdpbmaaGreatDoorFa13
import Derived.Test.YticfnaiehdpbmaaGreatDoorFa9
import Derived.Test.YticfnaiehdpbmaaGreatDoorFa10
import Derived.Test.YticfnaiehdpbmaaGreatDoorFa11
set_option maxRecDepth 100000
set_option maxHeartbeats 0
set_option linter.all false
namespace Go.Proofs.YticfnaiehdpbmaaGreatDoor
open Go.RowKit Go.Proofs.Tryz
def Ua {α β:Type}{b:PR α}{c:α->Nat->PR β}{y:β}{d:Nat}(h:b.bind c=.ok y d):∃ x a,b=.ok x a/\c x a=.ok y d:=by
 cases b with
 | ok x a=>exact⟨x,a,rfl,h⟩
 | f0 e f=>cases h
 | out=>cases h
def q8 {c:Py}:Q7 c≠15:=by
 unfold Q7 RI
 cases d:hv.find? (λb=>decide (c=b.1)) with
 | none=>decide
 | some b=>
  have a:=h7 d;simp only[hv,gP,jz,jt] at a
  rcases a with rfl|rfl|rfl|rfl|rfl|rfl|rfl|rfl <;> decide
def aj9 {i:List Tk}{d:Um}{b:Int}{j:Py}{e f g:Nat}{c:Tr}(h:TI i d b j e f=.ok c g):c.kd=b:=by
 unfold TI at h;have a{G}(h:G:=by
 cases h;rfl):=O6 h;exact pa
def MC {g:List Tk}{c:Um}{d i e f:Nat}{b:Tr}(h:nM g c d i e=.ok b f):b.kd≠15:=by
 unfold nM at h
 split at h
 ·unfold oB at h;obtain⟨_,_,_,h⟩:=Ua h
  split at h
  ·
   cases h
  ·split at h
   ·exact wM
   ·obtain⟨_,_,_,h⟩:=Ua h
    cases h;exact q8
 ·unfold n4 at h;have a{G}(h:G:=by
  rw[aj9 h];decide):=O6 h;exact pa
 ·unfold QO at h;have a{G}(h:G:=by
  cases h
  show (6:Int)≠15
  decide):=O6 h;exact pa
 ·obtain⟨_,_,_,h⟩:=Ua h
  cases h;decide
 ·unfold WW at h;have a{G}(h:G:=by
  split at h
  ·obtain⟨_,_,_,h⟩:=Ua h
   cases h;exact q8
  ·
   cases h;exact q8):=O6 h;exact pa
 ·unfold UE at h;exact wM
 ·unfold XC at h
  split at h
  ·exact wM
  ·obtain⟨_,_,_,h⟩:=Ua h
   cases h;exact q8
 ·unfold Xn at h;have a{G}(h:G:=by
  have a{G}(h:G:=by
  split at h
  ·
   cases h
  ·
   cases h
   show (12:Int)≠15
   decide):=O6 h;exact pa):=O6 h;exact pa
def xn (c:List Tk):∀ b,pf (iN c b):=by
 intro b
 cases b with
 | zero=>intro d e g f h;cases h
 | succ b=>
  intro d e g f h i;have a:SX c (iN c b) d e=.ok g f:=h;unfold SX at a
  split at a
  ·exact absurd i (MC a)
  ·unfold o3 at a;obtain⟨j,_,_,a⟩:=Ua a;obtain⟨_,_,_,a⟩:=Ua a
   cases a
   exact⟨j,[],rfl⟩
def MM {d:gy}{w:Um}(o:FC d w)(q:∃ a,jW d.l a w):hs d 154 NV (Xn d.l w):=by
 intro m b j M a u h;unfold Xn at a
 cases c:Qm d.l md j with
 | out=>rw[c] at a;exact absurd a.symm u
 | f0 e f=>rw[c,QK] at a;subst a;exact S3 m b j h e f c
 | ok x l=>
  rw[c,gb] at a
  cases g:QO d.l w b l with
  | out=>rw[g] at a;exact absurd a.symm u
  | f0 e f=>rw[g,QK] at a;subst a;exact aMM o q m b j l h c e f g
  | ok s i=>
   rw[g,gb] at a;unfold pZ at a
   by_cases k:fx d.l i=VT
   ·rw[fL k,jbZ] at a
    cases r:Qm d.l Rz (i+1) with
    | out=>rw[r] at a;exact absurd a.symm u
    | f0 e f=>rw[r,QK] at a;subst a;exact sT o q m b j l h c s i g k e f (fM r)
    | ok I i2=>
     rw[r,gb,jbZ] at a
     cases t:gC d.l i2 with
     | out=>rw[t] at a;exact absurd a.symm u
     | f0 e f=>rw[t,QK] at a;subst a;exact sT o q m b j l h c s i g k e f (fU ⟨i2,r,fM t⟩)
     | ok D A=>
      rw[t,gb,jbZ] at a
      cases v:Qm d.l Tt A with
      | out=>rw[v] at a;exact absurd a.symm u
      | f0 e f=>rw[v,QK] at a;subst a;exact sT o q m b j l h c s i g k e f (fU ⟨i2,r,fU ⟨D,A,t,fM v⟩⟩)
      | ok L B=>
       rw[v,gb,jbZ] at a
       cases z:QO d.l w b B with
       | out=>rw[z] at a;exact absurd a.symm u
       | f0 e f=>rw[z,QK] at a;subst a;exact sT o q m b j l h c s i g k e f (fU ⟨i2,r,fU ⟨D,A,t,fU ⟨B,v,z⟩⟩⟩)
       | ok E C=>
        rw[z,gb,gb] at a;unfold Xm at a
        by_cases n:fx d.l C=SS
        ·rw[fL n,jbZ] at a
         cases p:QO d.l w b (C+1) with
         | out=>rw[p] at a;exact absurd a.symm u
         | f0 e f=>rw[p,QK] at a;subst a;exact Rv o q m b j l h c s i g k i2 r D A t B v E C z n e f p
         | ok F H=>
          rw[p,gb,gb,fK P7] at a;subst a;exact ax4 o q m b j l h c s i g k i2 r D A t B v E C z n F H p
        ·rw[fK n,gb,fK P7] at a;subst a;exact Rs o q m b j l h c s i g k i2 r D A t B v E C z n
   ·rw[fK k,gb] at a;unfold Xm at a
    by_cases n:fx d.l i=SS
    ·rw[fL n,jbZ] at a
     cases p:QO d.l w b (i+1) with
     | out=>rw[p] at a;exact absurd a.symm u
     | f0 e f=>rw[p,QK] at a;subst a;exact apP o q m b j l h c s i g k n e f p
     | ok F H=>
      rw[p,gb,gb,fK P7] at a;subst a;exact aCQ o q m b j l h c s i g k n F H p
    ·rw[fK n,gb,fL P7] at a;subst a;exact ax3 o q m b j l h c s i g k n
def W3:WM 147:=λ_ _=>by kernel_rfl
def ST:WM 148:=λ_ _=>by kernel_rfl
def aKD:WM 149:=λ_ _=>by kernel_rfl
def aKE:WM 150:=λ_ _=>by kernel_rfl
def aKF:WM 151:=λ_ _=>by kernel_rfl
def Ou:WM 152:=λ_ _=>by kernel_rfl
def Nl:WM 153:=λ_ _=>by kernel_rfl
def aKI:WM 154:=λ_ _=>by kernel_rfl
def aKJ {e:Py}{d:Nat}(h:RI U5 e=some d):d<8:=by
 unfold RI at h
 cases a:U5.find? (λc=>decide (e=c.1)) with
 | none=>rw[a] at h;cases h
 | some c=>
  rw[a] at h;have b:=h7 a;simp only[Option.map_some,hc] at h;subst h;simp only[U5,gP,jz,jt] at b
  rcases b with rfl|rfl|rfl|rfl|rfl|rfl|rfl|rfl|rfl|rfl|rfl|rfl <;> decide
def B6 {d:gy}{a:Pe}{e:Nat}{b:PR Tr}{f:Ending}{c:Pe}(h:QT d a e (EV a.heap.size) b f c):QT d a e (NV a.heap.size) b f c:=by
 cases b with
 | ok x m=>
  obtain⟨⟨l,k,g⟩,j,i⟩:=h;exact⟨⟨l,k,g.nv⟩,j,i⟩
 | f0 g i=>exact h
 | out=>exact h
def afd {m:gy}{n:Um}(k:FC m n)(q:∃ a,jW m.l a n)(s:pf n):hs m 160 NV (SX m.l n):=by
 intro j c a d i b h;unfold SX at i
 cases g:RI U5 (fx m.l a) with
 | none=>rw[g] at i;exact axX k j c a d i b g h
 | some l=>
  rw[g] at i;have z:=aKJ g;have o:(Qe m.l a).kd≠6:=λt=>by
   have:fx m.l a=O8:=by unfold fx;rw[t];rfl
   have w:RI U5 O8=none:=by decide
   rw[this,w] at g;cases g
  have v:l=0\/l=1\/l=2\/l=3\/l=4\/l=5\/l=6\/l=7:=O9
  rcases v with rfl|rfl|rfl|rfl|rfl|rfl|rfl|rfl
  ·exact XG 147 W3 j c a d b 0 g rfl (λe f=>QR k e c a d o i b f) h
  ·exact XG 148 ST j c a d b 1 g rfl (λe f=>aue k q s e c a d i b f) h
  ·exact XG 149 aKD j c a d b 2 g rfl (λe f=>(RV k q e c a d i b f).mono λu r p=>B6 p) h
  ·exact XG 150 aKE j c a d b 3 g rfl (λe f=>lP e c a d i b f) h
  ·exact XG 151 aKF j c a d b 4 g rfl (λe f=>amm k e c a d o i b f) h
  ·exact XG 152 Ou j c a d b 5 g rfl (λe f=>(x2 k e c a d o i b f).mono λu r p=>B6 p) h
  ·exact XG 153 Nl j c a d b 6 g rfl (λe f=>amn k e c a d o i b f) h
  ·exact XG 154 aKI j c a d b 7 g rfl (λe f=>MM k q e c a d i b f) h
def atK (d:gy)(i:Ends d.l):∀ c,FC d (iN d.l c):=by
 intro c
 induction c with
 | zero=>exact⟨λ_ _ _ f b a _=>absurd b.symm a,λ_ _ _ f b a _=>absurd b.symm a,λ_ _ _ _ _ _ f b a _=>absurd b.symm a,λ_ _ _ f b a _=>absurd b.symm a⟩
 | succ c e=>
  have g:∃ m,jW d.l m (iN d.l c):=⟨c,zN i c⟩;exact⟨afd e g (xn d.l c),apM e,λj _ _ n k l f b a h=>Xh e g j n k l f b a h,Yl e (apO e g (xn d.l c))⟩
def atH (j:Nat)(b:Tr)(c:Nat)(a:Pe)(h:Qa (gp j) a b c)(k:b.count<=90000) :
  Pq 35 #[O5 c] a λe i=>e=PK (O3 (b.count:Int))/\Pn a i:=by
 have s:=Zg;have m:Qa (λx=>x≠a.heap.size) (a.alloc (.cells #[O3 0] 3)) b c:=
  Qa.fH (I:=λx=>x≠a.heap.size) (λd _ f=>gd a _ d f) _ _ (Qa.mono (λd _ f=>by omega) _ _ h)
 have r:pe a.heap.size 0 (a.alloc (.cells #[O3 0] 3)):=⟨Ph _ _⟩;have l:=mu a.heap.size b.count b Qp c 0 _ m r O9;clear h k;go_enter func35,ntmps35;go_wp2_with fail;refine cm l ?_;rintro e g ⟨rfl,p,q⟩;have o:g.cell? (O7 a.heap.size 0)=some (O3 (((0+b.count:Nat)):Int)):=by rw[cell_of p.gw];rfl
 rw[ib] at o;have n:Pn a g:=(RP.alloc Qp (.cells #[O3 0] 3)).trans ((q.mono P7).below Qp);go_wp2;go_ret;exact⟨rfl,n⟩
inductive rE where
 | ok (t:Tr)
 | at (er:Int) (p:Nat)
 | bare
abbrev KK:Nat:=24100
def TD (g f:List Py)(c:Py):rE:=
 if 3000<c.size then .bare
 else match Vq g f c (P9 TU c 0) [] with
  | .f0 a b=>.at a b
  | .ok d=>match Wh d (iN d KK) with
   | .f0 a b=>.at a b
   | .ok e _=>if 1500<e.count then .bare else .ok e
   | .out=>.bare
def p2 (g:rE)(b:Pe)(d:Ending)(a:Pe):Prop:=
 match g with
 | .ok e=>∃ c,d=PK (.tuple #[O5 c,.nilIface])/\Qa (gp b.heap.size) a e c/\Pn b a
 | .at e f=>∃ c,d=PK (.tuple #[.pointer none,.iface 150 (PL c 0)])/\a.heap[c]? = some (PZ #[O3 e,O3 (f:Int)] 152)/\b.heap.size<=c/\Pn b a
 | .bare=>d=PK (.tuple #[.pointer none,.iface 34 (O3 4)])/\Pn b a
def Ot {c b:List Py}{g:Py}{e:Nat}{a f:Int}{i:Py}{d:Nat}(h:Xf c b g e=.tok a i f d):a≠6:=by
 unfold Xf at h
 split at h
 ·unfold Vr at h
  split at h
  ·
   cases h;decide
  ·split at h
   ·
    cases h
   ·
    cases h;decide
 ·split at h
  ·unfold rdNum at h
   split at h
   ·
    cases h
   ·split at h
    ·
     cases h
    ·split at h
     ·
      cases h
     ·
      cases h;decide
  ·split at h
   ·unfold rdStr at h
    split at h
    ·split at h
     ·
      cases h
     ·
      cases h;decide
    ·
     cases h
   ·unfold WE at h
    split at h
    ·
     cases h;decide
    ·
     cases h
def apF (e c:List Py)(a:Py)(s:∀ f ∈ c,1<=f.size):∀ p b d o,a.size - b=p->b<=a.size->Vq e c a b d=.ok o ->
  ∃ m,o=d++m++[⟨6,⟨#[]⟩,0,a.size⟩]/\(∀ q ∈ m,q.kd≠6)/\m.length<=a.size - b:=by
 intro p
 induction p using Nat.strongRecOn with
 | ind p w=>
  intro b d o A C h
  by_cases i:b<a.size
  ·
   cases n:Xf e c a b with
   | f0 f j=>rw[yd e c a b d f j i n] at h;cases h
   | tok j l k f=>
    have t{G}(h:G:=by
    obtain⟨m,z,v,B⟩:=w (a.size - P9 TU a f) O9 (P9 TU a f) _ o rfl r h;refine⟨⟨j,l,k,b⟩::m,by rw[z];simp,λq g=>?_,by simp;omega⟩
    rcases gP.1 g with rfl|g
    ·exact Ot n
    ·exact v q g):=O6 h;exact J8
  ·rw[Zp e c a b d i] at h;exact⟨[],by cases h;simp,λq g=>absurd g P7,by simp⟩
def Mj {f c:List Py}{a:Py}(m:∀ d ∈ c,1<=d.size){b:List Tk}(h:Vq f c a (P9 TU a 0) []=.ok b):Ends b/\0<b.length/\b.length<=a.size+1:=by
 obtain⟨g,i,k,n⟩:=apF f c a m _ (P9 TU a 0) [] b rfl (UL TU a 0 (f3 _)) h;rw[hR] at i;subst i;refine⟨λj l=>?_,by simp,by simp;omega⟩
 rw[gj,lh] at l;unfold Qe;rw[g8,gj,lh]
 by_cases d:j<g.length
 ·rw[ht d,ga d];constructor
  ·intro e;exact absurd e (k _ (gT d))
  ·intro e;omega
 ·have e:j=g.length:=O9;subst e;rw[hm Qp,Nat.sub_self];simp
section
variable {a:List Tk} {i:Nat} {d:Um} (j:jW a i d)
include a i d j
def ajS (p:8 * a.length+3<i):∀ c e b,b<a.length->a.length - b<c->Sl a d c e b≠.out:=by
 intro c
 induction c with
 | zero=>intro e b g m;omega
 | succ c n=>
  intro e b g m;unfold Sl
  split
  ·nofun
  ·have k:=Sv (a:=a) (b:=0) ((j.st (0+1) b g).imp (q':=True) (λ_=>by omega))
   cases f:Qw a d.st 0 b with
   | out=>exact absurd f (k.1 trivial)
   | f0 l o=>rw[PR.bind];nofun
   | ok o l=>
    have:=k.2 o l f;exact n _ l this.2 O9
def ajT:∀ e f b g c,b<a.length->Sl a d e f b=.ok g c->c<a.length:=by
 intro e
 induction e with
 | zero=>intro f b g c _ h;cases h
 | succ e m=>
  intro f b g c k h;unfold Sl at h
  split at h
  ·
   cases h;exact k
  ·obtain⟨o,l,n,h⟩:=Ua h;exact m _ l _ _ ((Sv (a:=a) (b:=0) (j.st (0+1) b k)).2 o l n).2 h
end
def Hr {a:List Tk}(g:Ends a)(d:0<a.length)(l:a.length<=3001):Wh a (iN a KK)≠.out/\∀ e b,Wh a (iN a KK)=.ok e b->b<a.length:=by
 have c:=zN g KK;have i:=ajS c (by unfold KK;omega) (iN a KK).fuel [] 0 d (by rw[c.fuel];unfold KK;omega)
 unfold Wh;constructor
 ·
  cases f:Sl a (iN a KK) (iN a KK).fuel [] 0 with
  | out=>exact absurd f i
  | f0 k m=>nofun
  | ok j b=>nofun
 ·intro e b h;obtain⟨j,k,f,h⟩:=Ua h;cases h;exact ajT c _ _ _ _ _ d f
