import Derived.Test.YticfnaiehdpbmaaGreatDoorWa9
import Derived.Test.YticfnaiehdpbmaaGreatDoorWa13
set_option maxRecDepth 100000
set_option maxHeartbeats 0
set_option linter.all false
namespace Go.Proofs.YticfnaiehdpbmaaGreatDoor
open Go.RowKit Go.Proofs.Tryz
namespace Hp
section
variable {w:Py}
abbrev nj (b a:PO)(c d:Int)(x:PS):PO:=.agg #[b,Ph c,PI x,Ph d,a]
def iI {a:Nat}{x y b d e:PO}{f:TypeId}(h:w.heap[a]?=some (Qb #[x,y,b,d,e] f)):w.cell? (Pn a 0)=some x/\w.cell? (Pn a 1)=some y/\w.cell? (Pn a 2)=some b/\w.cell? (Pn a 3)=some d/\w.cell? (Pn a 4)=some e/\(∀c,w.frozen? (Pn a c)=false)/\a<w.heap.size:=by
 refine⟨?_,?_,?_,?_,?_,λc=>?_,fR h⟩
 ·rw[cell_of h];rfl
 ·rw[cell_of h];rfl
 ·rw[cell_of h];rfl
 ·rw[cell_of h];rfl
 ·rw[cell_of h];rfl
 ·simp[World.frozen?,h]
def TC {i:Nat}{w:Py}{g:PO}{b:List (Int×Int)}(h:w.ownsRow i 54 2 g b.length (b.flatMap ma))(a:Nat)(c:a<b.length) :
  ∃d e,g=.slice (some (Pn d 0)) b.length e/\d<w.heap.size/\w.cell? (Pn d (2 * a))=some (Ph b[a].1)/\w.cell? (Pn d (2 * a+1))=some (Ph b[a].2):=by
 obtain⟨d,e,rfl,_,_⟩:=h.form Pv;have f:∀(b:List (Int×Int))(a:Nat)(c:a<b.length),(b.flatMap ma)[2 * a]?=some (Ph b[a].1)/\(b.flatMap ma)[2 * a+1]?=some (Ph b[a].2):=by
  intro b
  induction b with
  |nil=>intro a c;simp at c
  |cons k b j=>
   intro a c
   cases a with
   |zero=>exact⟨rfl,rfl⟩
   |succ a=>
    have:=j a (by simpa using c);rw[hM,show 2 * (a+1)=2 * a+2 by omega];exact this
 refine⟨d,e,rfl,(h.lt d rfl).2,?_,?_⟩
 ·rw[h.cellAt (2 * a) Pv];exact(f b a c).1
 ·rw[h.cellAt (2 * a+1) Pv];exact(f b a c).2
abbrev Rh:=List (Int×Option Sc)
inductive Cn (ρ:Rh):Int->List Sc->Prop
 |sK:Cn ρ 0 []
 |room {i:Nat} {o:Int} {c:Sc} {ch:List Sc} (h:ρ[i]?=some (o,some c)) (k:Cn ρ o ch):Cn ρ i (c::ch)
 |skip {s:Int} {c:Sc} {ch:List Sc} (h:∀nm,hasB c.jC nm=true->nm=PE) (aG:c.gv=false) (k:Cn ρ s ch):Cn ρ s (c::ch)
 |tF {i:Nat} {o:Int} {c:Sc} {ch:List Sc} (h:ρ[i]?=some (o,none)) (az:c.jC=[]) (aG:c.gv=true) (k:Cn ρ o ch):Cn ρ i (c::ch)
variable {ρ ρ':Rh}{s:Int}{g:List Sc}{a:PS}
def qY {b:Nat}{y:Int×Option Sc}(h:ρ[b]?=some y)(c:ρ <+:ρ'):ρ'[b]?=some y:=by
 obtain⟨d,rfl⟩:=c;rw[g6 (gs.1 h).1];exact h
def Cn.up (h:Cn ρ s g)(d:ρ <+:ρ'):Cn ρ' s g:=by
 induction h with
 |sK=>exact .sK
 |room h _ b=>exact .room (qY h d) b
 |skip h c _ b=>exact .skip h c b
 |tF h e c _ b=>exact .tF (qY h d) e c b
def Fr (ρ:Rh)(s:Int):Prop:=∃(b:Nat)(d:Int),s=b/\(ρ[b]?=some (d,none)\/∃c,ρ[b]?=some (d,some c)/\c.gv=true)
def Fr.up (h:Fr ρ s)(b:ρ <+:ρ'):Fr ρ' s:=by
 obtain⟨l,aM,rfl,h|⟨m,h,c⟩⟩:=h
 ·exact⟨l,aM,rfl,.inl (qY h b)⟩
 ·exact⟨l,aM,rfl,.inr ⟨m,qY h b,c⟩⟩
def Al (ρ:Rh)(s:Int)(a:PS):Prop:=∀(c:Nat)(d:Int)(b:Sc),s=c->ρ[c]?=some (d,some b)->b.gv=false->hasB b.jC a=true
def Fr.al (h:Fr ρ s)(a:PS):Al ρ s a:=by
 obtain⟨e,n,rfl,h⟩:=h;intro f m j k b c;have d:e=f:=Pv;subst d
 rcases h with h|⟨l,h,i⟩
 ·rw[h] at b;cases b
 ·rw[h] at b;cases b;rw[i] at c;cases c
def Gd (d:List Us)(c:Int×Int):Prop:=∃b ∈ d,b.1=c.1/\(b.2.2=true->b.2.1=c.2)
abbrev Sh (b:Nat)(c:Tr):Prop:=Tf (λx=>x≠PE) (λ_=>True) (λ_=>True) b c
def Vr (ρ:Rh)(s:Int):Prop:=∃b:Nat,s=b/\b<ρ.length
def Vr.up (h:Vr ρ s)(b:ρ <+:ρ'):Vr ρ' s:=by
 obtain⟨l,rfl,bO⟩:=h;exact⟨l,rfl,gH bO b.length_le⟩
def lm (j:List Us)(ρ:Rh)(b:Fu):Prop:=Vr ρ b.scope/\∀d,b.d.1=some d->∃e c g f i,b.d.2.fS=[e,c]/\Sh 5 e/\Sh 4 c/\c.count<=i/\(b.d.2.kd=5\/b.d.2.kd=37) /\
 Cn ρ b.scope (if b.d.2.kd==37 then ⟨d,[b.d.2.tx],false⟩::g else g)/\b.f3=(f||PU c)/\∀k ∈ il (tl i) c.fS (d+1+e.count+1) (oc b.d.2 e c d g f) (f||PU c),k ∈ j
def lm.up {L:List Us}{c:Fu}(h:lm L ρ c)(b:ρ <+:ρ'):lm L ρ' c:=⟨h.1.up b,λr d=>by
 obtain⟨u,n,g,z,t,q,e,i,f,k,j,p,o⟩:=h.2 r d;exact⟨u,n,g,z,t,q,e,i,f,k,j.up b,p,o⟩⟩
structure WI (L:List Us)(ρ:Rh)(b:Nat)(σ:St):Prop where
 ln:ρ.length=σ.M.PL.length
 ow:σ.QL.length=σ.M.PL.length
 ot:∀(i:Nat) x y,σ.M.PL[i]?=some x->ρ[i]?=some y->x.outer=y.1
 dn:∀(i:Nat) y,ρ[i]?=some y->y.1<i
 g0:ρ[0]?=some (-1,none)
 o0:σ.QL[0]?=some (-1)
 sc:∀(i:Nat) x o c,σ.M.PL[i]?=some x->ρ[i]?=some (o,some c)->x.gf = -1/\σ.QL[i]?=some c.own/\(c.gv=false->∀e ∈ x.cs,hasB c.jC e.name=true)
 lo:∀(i:Nat) o c,i<b->ρ[i]?=some (o,some c)->∀nm,hasB c.jC nm=true->nm≠PE->K4 σ.M i nm
 fn:∀f ∈ σ.SE,lm L ρ f
 se:∀q ∈ σ.seen,Gd L q
inductive Rc (A:PS->Prop)(s:Int)(M hm:Mo):Prop
 |same (h:hm.PL=M.PL)
 |ro (i:Nat) (x:Ro) (cs:List Ce) (ac:s=i) (ab:M.PL[i]?=some x) (aF:hm.PL=M.PL.set i ⟨x.outer,x.gf,cs⟩) (az:∀c ∈ cs,(∃c0 ∈ x.cs,c0.name=c.name)\/A c.name)
def yr (b:Mo)(c:Int)(a:PS)(d:Va)(fx:Bool):(b.put c a d fx).2.PL=b.PL:=by
 unfold Mo.put
 split
 ·rfl
 ·split
  ·rfl
  ·split <;> rfl
def BQ (b:Mo)(c:Int)(a:PS):(b.cut c a).2.PL=b.PL:=by
 unfold Mo.cut
 split
 ·rfl
 ·split
  ·rfl
  ·split
   ·rfl
   ·split <;> rfl
def I6 {d:PS->Prop}{f:List Ce}{i:Nat}{e b:Ce}(j:f[i]?=some e)(k:b.name=e.name):∀c ∈ f.set i b,(∃l ∈ f,l.name=c.name)\/d c.name:=λc m=>by
 rcases iq m with h|rfl
 ·exact .inl ⟨c,h,rfl⟩
 ·exact .inl ⟨e,gC j,k.symm⟩
def alm (b:Mo)(s:Int)(a:PS)(k:Int)(l:Va):Rc (· = a) s b (b.gc s a k l).2:=by
 unfold Mo.gc
 rcases QC b s with ⟨f,_⟩|⟨j,x,rfl,c,i⟩
 ·rw[f];exact .same rfl
 ·rw[i];simp only
  split
  ·exact .same rfl
  ·
   cases m:fC a x.cs with
   |some d=>exact .same rfl
   |none=>
    refine .ro j x _ rfl c rfl (λe d=>?_)
    rcases gB.1 d with h|h
    ·exact .inl ⟨e,h,rfl⟩
    ·rw[gn.1 h];exact .inr rfl
def Wg (b:Mo)(s:Int)(a:PS)(c:Va):Rc (λ_=>False) s b (b.start s a c).2:=by
 unfold Mo.start
 rcases QC b s with ⟨f,_⟩|⟨j,x,rfl,d,i⟩
 ·rw[f];exact .same rfl
 ·rw[i];simp only
  split
  ·exact .same rfl
  ·split
   ·exact .same rfl
   ·rename_i e
    exact .ro j x _ rfl d rfl (I6 (d:=λ_=>False) (b:=⟨_,c,_,true⟩) e rfl)
def av4 {a:PS}{c:List Ce}{b:Ce}{j:Nat}(h:c.find? (λb=>ZO a b.name)=some b)(e:fC a c=some j):c[j]?=some b:=by
 rcases Wq (λb=>ZO a b.name) c with ⟨i,d⟩|⟨k,l,i,d,f,_⟩
 ·rw[h] at d;cases d
 ·rw[show fC a c=some k from i] at e;rw[h] at f;cases e;cases f;exact d
def asH (b:Mo)(s:Int)(a:PS)(e:Va):Rc (λ_=>False) s b (b.write s a e).2:=by
 unfold Mo.write
 split
 ·
  cases c:b.Y2 s a with
  |none=>exact .same (yr _ _ _ _ _)
  |some d=>
   simp only
   split
   ·exact .same rfl
   ·split
    ·exact .same rfl
    ·split
     ·exact .same rfl
     ·rcases QC b s with ⟨j,_⟩|⟨l,x,rfl,i,k⟩
      ·rw[j];exact .same rfl
      ·unfold Mo.Y2 at c;rw[k] at c ⊢;simp only
       cases f:fC a x.cs with
       |none=>exact .same rfl
       |some m=>exact .ro l x _ rfl i rfl (I6 (d:=λ_=>False) (b:=⟨d.name,e,d.kind,d.ready⟩) (av4 c f) rfl)
 ·exact .same rfl
def av5 (b:Mo)(s:Int)(a:PS):Rc (λ_=>False) s b (b.drop s a).2:=by
 unfold Mo.drop
 cases c:b.Y2 s a with
 |none=>exact .same (BQ _ _ _)
 |some d=>
  simp only
  split
  ·exact .same rfl
  ·rcases QC b s with ⟨f,_⟩|⟨j,x,rfl,e,i⟩
   ·rw[f];exact .same rfl
   ·rw[i];simp only
    cases k:fC a x.cs with
    |none=>exact .same rfl
    |some l=>
     refine .ro j x _ rfl e rfl (λd c=>?_);exact .inl ⟨d,lV c,rfl⟩
variable {L:List Us}{O:Nat}{σ:St}{n:Mo}{ad:PS->Prop}{ae:Va->Prop}{af:Int}
section
variable (h:WI L ρ O σ)
include h
def WI.rc (E:Rc ad s σ.M n)(N:∀a,ad a->Al ρ s a)(r:kw ae af σ.M n):WI L ρ O { σ with M:=n }:=by
 have m:=r.rl;have z:∀(d:Nat) f e,d<O->ρ[d]?=some (f,some e)->∀a,hasB e.jC a=true->a≠PE->K4 n d a:=λd f e I C a q o=>r.k4 (h.lo d f e I C a q o)
 cases E with
 |same l=>
  exact⟨by rw[h.ln];exact m.symm,by show σ.QL.length=_;rw[h.ow];exact m.symm,λd x y i=>h.ot d x y (by rw[<-l];exact i),h.dn,h.g0,h.o0,λd x f e i=>h.sc d x f e (by rw[<-l];exact i),z,h.fn,h.se⟩
 |ro d x P D i l M=>
  have v:∀(b:Nat) y,n.PL[b]?=some y->(b=d/\y=⟨x.outer,x.gf,P⟩)\/(b≠d/\σ.M.PL[b]?=some y):=by
   intro b y c;rw[l] at c
   by_cases k:b=d
   ·subst k;rw[hW (gs.1 i).1] at c;cases c;exact .inl ⟨rfl,rfl⟩
   ·rw[h8 (hV k)] at c;exact .inr ⟨k,c⟩
  refine⟨by rw[h.ln];exact m.symm,by show σ.QL.length=_;rw[h.ow];exact m.symm,λb y u c j=>?_,h.dn,h.g0,h.o0,λb y f e c j=>?_,z,h.fn,h.se⟩
  ·rcases v b y c with ⟨rfl,rfl⟩|⟨_,c⟩
   ·exact h.ot b x u i j
   ·exact h.ot b y u c j
  ·rcases v b y c with ⟨rfl,rfl⟩|⟨_,c⟩
   ·obtain⟨q,o,F⟩:=h.sc b x f e i j;refine⟨q,o,λt k H=>?_⟩
    rcases M k H with ⟨B,A,p⟩|p
    ·rw[<-p];exact F t B A
    ·exact N _ p b f e D j t
   ·exact h.sc b y f e c j
def WI.ho (s:Int)(a:PS)(d:Int)(e:Va)(b:Al ρ s a):WI L ρ O (σ.ho s a d e):=h.rc (alm _ _ _ _ _) (λ_ c=>by rw[c];exact b) (Ug _ _ _ _ _)
def WI.start (s:Int)(a:PS)(c:Va):WI L ρ O { σ with M:=(σ.M.start s a c).2 }:=h.rc (Wg _ _ _ _) (λ_ b=>b.elim) (JD _ _ _ _)
def WI.write (s:Int)(a:PS)(c:Va):WI L ρ O { σ with M:=(σ.M.write s a c).2 }:=h.rc (asH _ _ _ _) (λ_ b=>b.elim) (Xk _ _ _ _)
def WI.drop (s:Int)(a:PS):WI L ρ O { σ with M:=(σ.M.drop s a).2 }:=h.rc (av5 _ _ _) (λ_ b=>b.elim) (A8 _ _ _)
def WI.PL (b:n.PL=σ.M.PL):WI L ρ O { σ with M:=n }:=by
 refine⟨?_,?_,λc x y d=>h.ot c x y (by rw[<-b];exact d),h.dn,h.g0,h.o0,λc x f e d=>h.sc c x f e (by rw[<-b];exact d),λc f e l j a p i=>?_,h.fn,h.se⟩
 ·show ρ.length=n.PL.length
  rw[b];exact h.ln
 ·show σ.QL.length=n.PL.length
  rw[b];exact h.ow
 ·obtain⟨q,x,o,k,d,m⟩:=h.lo c f e l j a p i;exact⟨q,x,o,k,by rw[b];exact d,m⟩
def WI.Ru (b:Int)(a:PS)(c:Va)(fx:Bool):WI L ρ O (σ.Ru b a c fx):=h.PL (yr _ _ _ _ _)
def WI.cut (b:Int)(a:PS):WI L ρ O { σ with M:=(σ.M.cut b a).2 }:=h.PL (BQ _ _ _)
def WI.Qo (m:Int):WI L ρ O { σ with M:=σ.M.Qo m }:=h.PL rfl
def WI.step:WI L ρ O σ.step:=⟨h.ln,h.ow,h.ot,h.dn,h.g0,h.o0,h.sc,h.lo,h.fn,h.se⟩
def WI.hF (b:List PS):WI L ρ O { σ with hF:=b }:=⟨h.ln,h.ow,h.ot,h.dn,h.g0,h.o0,h.sc,h.lo,h.fn,h.se⟩
def WI.fW (b:Nat):WI L ρ O { σ with fW:=b }:=⟨h.ln,h.ow,h.ot,h.dn,h.g0,h.o0,h.sc,h.lo,h.fn,h.se⟩
def WI.settle (s:Int)(a:PS)(b:Va)(c:Al ρ s a):WI L ρ O (Hp.settle s a b σ):=by
 unfold Hp.settle
 split
 ·exact h.ho s a 0 b c
 ·exact h.write s a b
def WI.gd (d:Nd)(e:Pl)(f:lm L ρ ⟨d,e.scope,e.f3||PU (Px d 1).2⟩):WI L ρ O (gd d e σ).2:=by
 have b:=h.Qo (3+σ.SE.length);refine⟨b.ln,b.ow,b.ot,b.dn,b.g0,b.o0,b.sc,b.lo,λi j=>?_,b.se⟩
 rcases gB.1 j with c|c
 ·exact h.fn i c
 ·rw[gn.1 c];exact f
end
def WI.fold {α:Type}{f:St->α->St}{P:α->Prop}(d:∀σ b,P b->WI L ρ O σ->WI L ρ O (f σ b)):∀(c:List α){σ:St},(∀b ∈ c,P b)->WI L ρ O σ->WI L ρ O (c.foldl f σ)
 |[],_,_,h=>h
 |b::c,_,e,h=>WI.fold d c (λx i=>e x (gO _ i)) (d _ b (e b gt) h)
def WI.gv (h:WI L ρ O σ){z:Int}(E:Vr ρ z)(aM f:Int)(k:Option Sc)(i:k=none\/O<=ρ.length/\aM = -1)(F:∀m,k=some m->m.own=f):WI L (ρ++[(z,k)]) O (σ.gv z aM f):=by
 obtain⟨d,rfl,M⟩:=E;have U:(σ.M.ro d).isSome=true:=by
  unfold Mo.ro;rw[fT Pv];have:d<σ.M.PL.length:=by rw[<-h.ln];exact M
  simp[this]
 have u:=h.ln;have A:=h.ow;have q:(σ.gv d aM f).M.PL=σ.M.PL++[⟨d,if (σ.M.ob aM).isSome then aM else -1,[]⟩]:=by
  show (σ.M.scope d aM).PL=_
  unfold Mo.scope;rw[fY U]
 have C:∀(b:Nat) x y,(σ.gv d aM f).M.PL[b]?=some x->(ρ++[((d:Int),k)])[b]?=some y->(σ.M.PL[b]?=some x/\ρ[b]?=some y/\b<ρ.length)\/(b=ρ.length/\x=⟨d,if (σ.M.ob aM).isSome then aM else -1,[]⟩/\y=((d:Int),k)):=by
  intro b x y e aZ;rw[q] at e
  by_cases j:b<ρ.length
  ·rw[g6 Pv] at e;rw[g6 j] at aZ;exact .inl ⟨e,aZ,j⟩
  ·have o:=(gs.1 aZ).1;rw[gg,hZ] at o;have c:b=ρ.length:=Pv;subst c;rw[u,g5 Qq,iy] at e;rw[g5 Qq,iy] at aZ;simp at e aZ;exact .inr ⟨rfl,e.symm,aZ.symm⟩
 have B:ρ <+:ρ++[((d:Int),k)]:=⟨_,rfl⟩;refine⟨?_,?_,λb x y e aZ=>?_,λb y aZ=>?_,qY h.g0 B,?_,λb x p m e aZ=>?_,λb p m j aZ a N D=>?_,λH b0=>(h.fn H b0).up B,h.se⟩
 ·rw[q,gg,gg,u];rfl
 ·show (σ.QL++[f]).length=_
  rw[q,gg,gg,A];rfl
 ·rcases C b x y e aZ with ⟨t,r,_⟩|⟨_,rfl,rfl⟩
  ·exact h.ot b x y t r
  ·rfl
 ·by_cases j:b<ρ.length
  ·rw[g6 j] at aZ;exact h.dn b y aZ
  ·have o:=(gs.1 aZ).1;rw[gg,hZ] at o;have c:b=ρ.length:=Pv;subst c;rw[g5 Qq,iy] at aZ;simp at aZ;rw[<-aZ]
   show (d:Int)<_
   omega
 ·show (σ.QL++[f])[0]?=_
  rw[g6 (gs.1 h.o0).1];exact h.o0
 ·rcases C b x _ e aZ with ⟨t,r,R⟩|⟨rfl,rfl,c⟩
  ·obtain⟨H,l,I⟩:=h.sc b x p m t r;refine⟨H,?_,I⟩
   show (σ.QL++[f])[b]?=_
   rw[g6 Pv];exact l
  ·simp only[iM] at c;have l:=c.2.symm;refine⟨?_,?_,λ_ c H=>by cases H⟩
   ·rcases i with i|⟨_,rfl⟩
    ·rw[i] at l;cases l
    ·show (if (σ.M.ob (-1)).isSome then (-1:Int) else -1) = -1
     split <;> rfl
   ·show (σ.QL++[f])[ρ.length]?=_
    rw[u,<-A,g5 Qq,iy,F m l];rfl
 ·have X:ρ[b]?=some (p,some m):=by
   by_cases T:b<ρ.length
   ·rw[g6 T] at aZ;exact aZ
   ·have o:=(gs.1 aZ).1;rw[gg,hZ] at o
    rcases i with i|⟨i,_⟩
    ·have c:b=ρ.length:=Pv;subst c;rw[g5 Qq,iy] at aZ;simp at aZ;rw[i] at aZ
     cases aZ.2
    ·omega
  obtain⟨R,x,c,H,l,I⟩:=h.lo b p m j X a N D;refine⟨R,x,c,H,?_,I⟩;rw[q,g6 (gs.1 l).1];exact l
def aAI {b O:PS}(h:ZO b O=true):O=b:=by
 unfold ZO at h;have c:O.data.toList=b.data.toList:=by simpa[<-iE] using h
 exact ByteArray.ext (Array.toList_inj.1 c)
def vH:∀(b:List Sc)(a:PS),(VN b a false).2=false
 |[],_=>rfl
 |c::b,a=>by
  rw[VN]
  split
  ·rfl
  ·rw[Bool.false_and];exact vH b a
variable {e:Mo}
def JI (h:∀(b:Nat) x,e.PL[b]?=some x->x.outer<b)(a:PS):∀(c:Nat)(b:Int),b<c->e.kf a c b=e.kf a (c+1) b
 |0,b,f=>by
  rw[Mo.kf,Mo.kf];have:e.ro b=none:=by unfold Mo.ro;rw[fY Pv]
  rw[this]
 |c+1,b,f=>by
  rw[Mo.kf,Mo.kf]
  rcases QC e b with ⟨i,_⟩|⟨k,x,rfl,d,j⟩
  ·rw[i]
  ·rw[j];simp only;have:=h k x d;rw[JI h a c x.outer Pv]
def find_eq (h:∀(b:Nat) x,e.PL[b]?=some x->x.outer<b){b:Nat}{x:Ro}(c:e.PL[b]?=some x)(a:PS):e.find b a=if e.has b a then (b:Int) else e.find x.outer a:=by
 have i:=(gs.1 c).1;have f:=h b x c;have d:e.ro b=some x:=by
  unfold Mo.ro;rw[fT Pv];exact c
 unfold Mo.find;rw[Mo.kf,d];simp only;rw[JI h a _ x.outer Pv]
def WI.outs (h:WI L ρ O σ):∀(b:Nat) x,σ.M.PL[b]?=some x->x.outer<b:=λb x c=>by
 have f:=(gs.1 c).1;obtain⟨y,d⟩:∃y,ρ[b]?=some y:=⟨_,gq (by rw[h.ln];exact f)⟩
 rw[h.ot b x y c d];exact h.dn b y d
def WI.room (h:WI L ρ O σ){i:Nat}{y:Int×Option Sc}(c:ρ[i]?=some y):∃x,σ.M.PL[i]?=some x/\x.outer=y.1:=by
 have d:=(gs.1 c).1;obtain⟨x,b⟩:∃x,σ.M.PL[i]?=some x:=⟨_,gq (by rw[<-h.ln];exact d)⟩
 exact⟨x,b,h.ot i x y b c⟩
def Mo.MN {b:Nat}(h:K4 e b a):e.has b a=true:=by
 obtain⟨l,x,j,m,d,f,k,_⟩:=h;have i:b=l:=Pv;subst i;unfold Mo.has Mo.Y2 Mo.ro;rw[fT Pv];have c:e.PL[((b:Int)).toNat]?=some x:=d;rw[c];rw[m4];left;rw[mU,List.find?_isSome];exact⟨j,f,k⟩
def Mo.aAK {c:Nat}{x:Ro}(i:e.PL[c]?=some x)(m:x.gf = -1)(h:∀b ∈ x.cs,b.name≠a):e.has c a=false:=by
 have d:e.ro c=some x:=by
  unfold Mo.ro;rw[fT Pv];exact i
 unfold Mo.has Mo.Y2 Mo.SX Mo.gQ;rw[d];have j:x.cs.find? (λk=>ZO a k.name)=none:=by
  rw[jQ];intro b k l;exact h b k (aAI l)
 have f:e.ob x.gf=none:=by
  unfold Mo.ob;rw[fY Pv]
 simp only[mU,mD,Option.getD_some,j,f,Option.bind_none,Option.isSome_none,ju]
def ZD (h:WI L ρ ρ.length σ)(A:Cn ρ s g)(v:a≠PE):σ.M.find s a≠-1->∀i,(VN g a i).2=true->σ.QL.getD (σ.M.find s a).toNat 0=(VN g a i).1:=by
 induction A with
 |sK=>
  intro j i _;obtain⟨x,m,k⟩:=h.room h.g0;have c:=find_eq h.outs m a;have q:σ.M.find ((0:Nat):Int) a=0:=by
   rw[c]
   split
   ·rfl
   ·rename_i f
    exfalso;rw[fT f,k] at c;apply j
    show σ.M.find ((0:Nat):Int) a = -1
    rw[c];unfold Mo.find;rw[Mo.kf];have:σ.M.ro (-1)=none:=by unfold Mo.ro;rw[fY PK]
    rw[this]
  show σ.QL.getD (σ.M.find ((0:Nat):Int) a).toNat 0 = -1
  rw[q,hk,show (0:Int).toNat=0 from rfl,h.o0];rfl
 |@room o r d g l u p=>
  intro j i b;obtain⟨x,m,k⟩:=h.room l;obtain⟨F,z,B⟩:=h.sc o x r d m l;have c:=find_eq h.outs m a;rw[VN] at b ⊢
  by_cases f:hasB d.jC a=true
  ·have q:=h.lo o r d (gs.1 l).1 l a f v;rw[fY f];rw[Mo.MN q,fY rfl] at c;rw[c,hk]
   show (σ.QL[o]?).getD 0=d.own
   rw[z];rfl
  ·rw[fT f] at b ⊢
   cases q:d.gv with
   |true=>
    rw[q,mK,mY,vH] at b;cases b
   |false=>
    rw[q,lG,lU] at b;rw[lG,lU];have E:σ.M.has o a=false:=Mo.aAK m F λc C D=>f (by rw[<-D];exact B q c C)
    rw[E,fT PK,k] at c;rw[c] at j ⊢;exact p j i b
 |@skip s d g f k u p=>
  intro j i b;have t:hasB d.jC a≠true:=λc=>v (f a c);rw[VN,fT t,k,lG,lU] at b ⊢;exact p j i b
 |@tF o r d g l q k u p=>
  intro j i b;have t:hasB d.jC a≠true:=by rw[q];simp[hasB]
  rw[VN,fT t,k,mK,mY,vH] at b;cases b
def WI.look (h:WI L ρ ρ.length σ)(b:Nd)(f:Pl)(p:∀d,b.1=some d->∃g,Cn ρ f.scope g/\b.2.tx≠PE/\((d:Int),(VN g b.2.tx true).1,(VN g b.2.tx true).2) ∈ L):WI L ρ ρ.length (look b f σ).2:=by
 unfold Hp.look;simp only
 cases o:b.1 with
 |none=>exact h
 |some d=>
  simp only
  split
  ·rename_i j
   obtain⟨g,m,i,k⟩:=p d o;refine⟨h.ln,h.ow,h.ot,h.dn,h.g0,h.o0,h.sc,h.lo,h.fn,λq c=>?_⟩
   rcases gB.1 c with c|c
   ·exact h.se q c
   ·rw[gn.1 c];exact⟨_,k,rfl,λl=>(ZD h m i j true l).symm⟩
  ·exact h
def K4.PL {e n:Mo}{s:Int}{a:PS}(h:K4 e s a)(c:n.PL=e.PL):K4 n s a:=by
 obtain⟨l,x,i,j,d,f,k,b⟩:=h;exact⟨l,x,i,j,by rw[c];exact d,f,k,b⟩
def N4.PL {e n:Mo}{s:Int}(h:N4 e s)(c:n.PL=e.PL):N4 n s:=by
 obtain⟨j,x,f,d,i,b⟩:=h;exact⟨j,x,f,by rw[c];exact d,i,b⟩
structure D1 (s:Int)(jC:List PS)(σ bT:St):Prop where
 n4:N4 bT.M s
 k4:∀nm,K4 σ.M s nm->K4 bT.M s nm
 nw:∀nm ∈ jC,K4 bT.M s nm
variable {r:St}{v:Va}
def D1.refl (h:N4 σ.M s):D1 s [] σ σ:=⟨h,λ_ h=>h,λ_ h=>by cases h⟩
def D1.trans {d i:List PS}{f:St}(h:D1 s d σ r)(c:D1 s i r f):D1 s (d++i) σ f:=⟨c.n4,λa x=>c.k4 a (h.k4 a x),λa b=>by
 rcases gB.1 b with b|b
 ·exact c.k4 a (h.nw a b)
 ·exact c.nw a b⟩
def pt (h:N4 σ.M s)(a:PS){b:Int}(c:b≠4)(v:Va):D1 s [a] σ (σ.ho s a b v):=
 ⟨h.mi (Ug _ _ _ _ _) c,λ_ x=>(Ug σ.M s a b v).k4 x,λf d=>by rw[gn.1 d];exact h.k4 a c v⟩
def Re {e:Mo}{s:Int}{a:PS}{b:Int}{v:Va}(h:(e.gc s a b v).1≠0):(e.gc s a b v).2=e:=by
 unfold Mo.gc at h ⊢
 cases d:e.ro s with
 |none=>rfl
 |some x=>
  rw[d] at h;simp only at h ⊢
  split
  ·rfl
  ·rename_i c
   rw[fT c] at h
   cases f:fC a x.cs with
   |some i=>rfl
   |none=>
    rw[f] at h;exact absurd rfl h
def Kd (h:N4 σ.M s)(a:PS)(v:Va):D1 s [a] σ (settle s a v σ):=by
 unfold settle
 split
 ·exact pt h a PK v
 ·rename_i d
  have b:=h.k4 a (c:=0) PK v;rw[Re d] at b;exact⟨h.mi (Xk _ _ _ _) (by decide:(0:Int)≠4),λ_ x=>(Xk σ.M s a v).k4 x,λf c=>by rw[gn.1 c];exact(Xk σ.M s a v).k4 b⟩
def uv (h:N4 σ.M s)(b:r.M.PL=σ.M.PL):D1 s [] σ r:=⟨h.PL b,λ_ x=>x.PL b,λ_ h=>by cases h⟩
def ri {α:Type}{i:St->α->St}{b:α->PS}(f:∀σ c,N4 σ.M s->D1 s [b c] σ (i σ c)):∀(d:List α){σ:St},N4 σ.M s->D1 s (d.map b) σ (d.foldl i σ)
 |[],_,h=>D1.refl h
 |c::d,_,h=>by
  have j:=f _ c h;exact j.trans (ri f d j.n4)
def xC (b:List Tr)(h:N4 σ.M s):D1 s (b.map Tr.tx) σ (Q5 b s σ):=ri (b:=Tr.tx) (λ_ c h=>pt h c.tx (by split <;> decide) vU) b h
def JH (d:Nd)(b:Pl)(h:N4 σ.M b.scope):D1 b.scope ((TK d).map λf=>f.2.tx) σ (UF d b σ):=
 ri (b:=λf:Nd=>f.2.tx) (fun σ c h=>by
  have i:=uv (r:=(gd c b σ).2) h rfl;have j:=i.trans (Kd i.n4 c.2.tx (gd c b σ).1);exact j) (TK d) h
def WI.lets (h:WI L ρ O σ)(b:List Tr)(c:∀d ∈ b,Al ρ s d.tx):WI L ρ O (Q5 b s σ):=
 WI.fold (P:=λd:Tr=>Al ρ s d.tx) (λ_ f c h=>h.ho s f.tx _ vU c) b c h
def WI.funcs (h:WI L ρ O σ)(d:Nd)(c:Pl)(j:∀b ∈ TK d,lm L ρ ⟨b,c.scope,c.f3||PU (Px b 1).2⟩)(f:∀b ∈ TK d,Al ρ c.scope b.2.tx):WI L ρ O (UF d c σ):=
 WI.fold (P:=λb:Nd=>lm L ρ ⟨b,c.scope,c.f3||PU (Px b 1).2⟩/\Al ρ c.scope b.2.tx) (λ_ i f h=>(h.gd i c f.1).settle c.scope i.2.tx _ f.2) (TK d) (λb i=>⟨j b i,f b i⟩) h
def Al.mem {i:Nat}{k:Int}{c:Sc}(h:ρ[i]?=some (k,some c)){a:PS}(d:a ∈ c.jC):Al ρ i a:=by
 intro j o m l b _;have f:i=j:=Pv;subst f;rw[h] at b;cases b;exact Xw.2 d
def Al.none {b:Nat}{i:Int}(h:ρ[b]?=some (i,Option.none))(a:PS):Al ρ b a:=by
 intro f l k j c _;have d:b=f:=Pv;subst d;rw[h] at c;cases c
def WI.full {i:Int}{d:Option Sc}(h:WI L (ρ++[(i,d)]) ρ.length σ)(k:∀b,d=some b->∀a ∈ b.jC,K4 σ.M ρ.length a):WI L (ρ++[(i,d)]) (ρ++[(i,d)]).length σ:=by
 refine⟨h.ln,h.ow,h.ot,h.dn,h.g0,h.o0,h.sc,λf q b m c a j l=>?_,h.fn,h.se⟩
 by_cases p:f<ρ.length
 ·exact h.lo f q b p c a j l
 ·rw[gg,hZ] at m;have o:f=ρ.length:=Pv;subst o;rw[g5 Qq,iy] at c;simp at c;exact k b c.2 a (Xw.1 j)
def Um {c:Int}{b:Option Sc}:(ρ++[(c,b)])[ρ.length]?=some (c,b):=by
 rw[g5 Qq,iy];rfl
def x2 {b:List PS}{x:PS}:x ∈ XV b↔x ∈ b:=by
 have k:∀(b c:List PS),x ∈ b.foldl ZN c↔x ∈ c\/x ∈ b:=by
  intro b
  induction b with
  |nil=>intro c;simp
  |cons d b i=>
   intro c;rw[kg,i];have:x ∈ ZN c d↔x ∈ c\/x=d:=by
    unfold ZN
    split
    ·rename_i h
     exact⟨.inl,λf=>f.elim id λj=>by rw[j];exact Xw.1 h⟩
    ·simp
   rw[this,gE,or_assoc]
 unfold XV;rw[k];simp
def tH (b:Nd):(TK b).map (λc=>c.2.tx)=(Ue b.2).map Tr.tx:=by
 have h:(TK b).map (·.2)=Ue b.2:=by
  unfold TK Ue;rw[<-Yv (b.1.map (· + 1)) b.2.fS,lC];rfl
 rw[<-h,List.map_map];rfl
def tL (σ:St)(b x:Int):N4 (σ.gv b (-1) x).M σ.gu:=qf σ b x
def WI.block (h:WI L ρ ρ.length σ){b:Nd}{c:Pl}(B:Vr ρ c.scope)(f:Option Sc)(k:∀d,f=some d->d.own=own b/\d.gv=false/\d.jC=gp b.2 false)(D:(gp b.2 false).length≠0)(z:∀i ∈ TK b,lm L (ρ++[(c.scope,f)]) ⟨i,σ.gu,c.f3||PU (Px i 1).2⟩) :
  WI L (ρ++[(c.scope,f)]) (ρ++[(c.scope,f)]).length (QD b c σ).2/\(QD b c σ).1={ c with scope:=(ρ.length:Int) }:=by
 have m:σ.gu=(ρ.length:Int):=by rw[h.ln]
 unfold QD;rw[fT D];simp only;have E:=h.gv B (-1) (own b) f (.inr ⟨Qq,rfl⟩) (λd l=>(k d l).1);have q:∀a,a ∈ gp b.2 false->Al (ρ++[(c.scope,f)]) σ.gu a:=by
  intro a j;rw[m]
  cases t:f with
  |none=>exact Al.none Um a
  |some d=>exact Al.mem Um (by rw[(k d t).2.2];exact j)
 have o:∀a,a ∈ (Qi b.2).map Tr.tx\/a ∈ (Ue b.2).map Tr.tx↔a ∈ gp b.2 false:=by
  intro a;unfold gp;rw[x2];simp only[ic,ib,hy,gB];exact or_comm
 have u:=E.lets (s:=σ.gu) (Qi b.2) (λF t=>q _ ((o _).1 (.inl (iu t))));have A:=u.funcs b { c with scope:=σ.gu } z (λi t=>q _ ((o _).1 (.inr (by rw[<-tH];exact iu (f:=λi:Nd=>i.2.tx) t))))
 refine⟨A.full λd l a j=>?_,by rw[m]⟩;have p:=xC (s:=σ.gu) (Qi b.2) (tL σ c.scope (own b));have C:=p.trans (JH b { c with scope:=σ.gu } p.n4);rw[(k d l).2.2] at j;rw[<-m];refine C.nw a ?_;rw[tH];exact gB.2 ((o a).2 j)
def sp:∀(b:List Tr)(d:Nat)(x:Nd),x ∈ Xe (some d) b->∃c,∃h:c<b.length,x=(some (d+Tr.f5 (b.take c)),b[c])
 |[],_,x,h=>by rw[Xe] at h;cases h
 |i::b,d,x,h=>by
  rw[Xe] at h
  rcases gE.1 h with rfl|h
  ·exact⟨0,by simp,by rw[ix,P8];rfl⟩
  ·obtain⟨c,j,f⟩:=sp b (d+i.count) x h;refine⟨c+1,by simp;omega,?_⟩
   rw[f,jb,PW,jt];rfl
def Xm:∀(b:List Tr)(x:Nd),x ∈ Xe none b->x.1=none
 |[],x,h=>by rw[Xe] at h;cases h
 |c::b,x,h=>by
  rw[Xe] at h
  rcases gE.1 h with rfl|h
  ·rfl
  ·exact Xm b x h
def AD {i:Tr->Nat->List Sc->Bool->List Us}{g:List Sc}{j:Bool}{l:Us}:∀(b:List Tr)(f d:Nat)(h:d<b.length),l ∈ i b[d] (f+Tr.f5 (b.take d)) g j->l ∈ il i b f g j
 |k::b,f,0,_,c=>by
  rw[il];rw[ix,P8] at c;exact iB _ c
 |k::b,f,d+1,h,c=>by
  rw[il];rw[jb,PW,<-jt] at c;exact jI _ (AD b (f+k.count) d (by simpa using h) c)
def Pd {b:List Tr}{c:Nat}(h:c<b.length):b[c].count<=Tr.f5 b:=UO b c h
def At (L:List Us)(ρ:Rh)(d:Nat)(c:Tr)(f:Int)(i:Bool):Prop:=∃b g,c.count<=b/\Cn ρ f g/\∀j ∈ tl b c d g i,j ∈ L
structure Pc (L:List Us)(ρ:Rh)(c:Nat)(d:Nd)(p:Pl):Prop where
 vr:Vr ρ p.scope
 fr:d.1=none->Fr ρ p.gh
 at':∀k,d.1=some k->Sh c d.2/\At L ρ k d.2 p.scope p.f3/\(p.f3=true\/me d.2=false\/Fr ρ p.gh)
variable {c m:Nat}{d:Tr}{p:Int}{q:Bool}{b:Nd}{i:Pl}
def At.up (h:At L ρ c d p q)(j:ρ <+:ρ'):At L ρ' c d p q:=by
 obtain⟨t,g,o,f,k⟩:=h;exact⟨t,g,o,f.up j,k⟩
def Pc.up (h:Pc L ρ m b i)(f:ρ <+:ρ'):Pc L ρ' m b i:=⟨h.vr.up f,λj=>(h.fr j).up f,λc j=>by
 obtain⟨t,k,o⟩:=h.at' c j;exact⟨t,k.up f,o.imp id (.imp id (·.up f))⟩⟩
def FW {f:List Tr}{k j:Nat}{g:List Sc}(u:Tr.f5 f<=j)(B:Cn ρ p g)(C:∀l ∈ il (tl j) f k g q,l ∈ L):∀x ∈ Xe (some k) f,∀c,x.1=some c->At L ρ c x.2 p q:=by
 intro x A c t;obtain⟨D,o,rfl⟩:=sp f k x A;cases t;exact⟨j,g,gr (Pd o) u,B,λl z=>C l (AD f k D o z)⟩
def Yz:∀{f:List Tr}{x:Tr},x ∈ f->l4 f=false->me x=false
 |d::f,x,h,j=>by
  rw[l4,ly] at j
  rcases gE.1 h with rfl|h
  ·exact j.1
  ·exact Yz h j.2
def WZ (f:Int):Prop:=f≠1/\f≠5/\f≠6/\f≠9/\f≠13/\f≠23/\f≠37/\f≠40
def At.fS (h:At L ρ c d p q)(A:WZ d.kd):∀x ∈ Xe (some (c+1)) d.fS,∀l,x.1=some l->At L ρ l x.2 p q:=by
 obtain⟨f,g,M,z,D⟩:=h;obtain⟨k,N,j,E,o,t,H,u⟩:=A;have I:d.count=1+Tr.f5 d.fS:=by cases d;rw[Tr.count];rfl
 cases f with
 |zero=>omega
 |succ f=>
  refine FW (j:=f) (g:=g) Pv z λF B=>D F ?_;have C:PU d=false:=by unfold PU;simp[k,j]
  rw[tl,fT t,fT k,fT j,fT o,fT E,fT Pv,fT u,C,ju];exact B
def R7 (k:WZ d.kd)(f:me d=false):l4 d.fS=false:=by
 obtain⟨_,l,_,_,_,_,j,_⟩:=k;rw[vf,show Q7 d=false from by unfold Q7;simp[l,j]] at f
 simpa using (ly.1 f).2
def zm {j:Option Nat}{f:List Tr}{x:Nd}(h:x ∈ Xe j f):x.2 ∈ f:=by
 have k:x.2 ∈ (Xe j f).map (·.2):=iu h
 rwa [Yv] at k
def Pc.iK {u:Nat}(h:Pc L ρ m b i)(t:WZ b.2.kd){x:Nd}(j:x ∈ QA b)(A:∀c,b.1=some c->Sh u x.2):Pc L ρ u x i:=by
 cases o:b.1 with
 |none=>
  have l:x.1=none:=Xm b.2.fS x (by unfold QA at j;rw[o] at j;exact j)
  exact⟨h.vr,λ_=>h.fr o,λc k=>by rw[l] at k;cases k⟩
 |some c=>
  have l:x ∈ Xe (some (c+1)) b.2.fS:=by unfold QA at j;rw[o] at j;exact j
  obtain⟨C,z,f⟩:=h.at' c o;refine⟨h.vr,λk=>?_,λB k=>⟨A c o,z.fS t x l B k,?_⟩⟩
  ·obtain⟨D,B,rfl⟩:=sp _ _ _ l;cases k
  ·rcases f with f|f|f
   ·exact .inl f
   ·exact .inr (.inl (Yz (zm l) (R7 t f)))
   ·exact .inr (.inr f)
def sv {f:Nat}(h:f<b.2.fS.length):Px b f ∈ QA b:=by
 unfold Px;have j:(QA b).length=b.2.fS.length:=Tz b;rw[hk,gq Pv];exact gU _
def V9 (h:b.1=none)(f:Nat):(Px b f).1=none:=by
 unfold Px;rw[hk]
 cases j:(QA b)[f]? with
 |none=>rfl
 |some x=>
  have:=gC j;unfold QA at this;rw[h] at this;exact Xm _ _ this
def Pc.Z2 {l:Nat}(h:Pc L ρ m b i)(o:WZ b.2.kd)(j:Nat)(t:∀c,b.1=some c->j<b.2.fS.length/\Sh l (Px b j).2):Pc L ρ l (Px b j) i:=by
 cases f:b.1 with
 |none=>exact⟨h.vr,λ_=>h.fr f,λc k=>by rw[V9 f] at k;cases k⟩
 |some c=>
  obtain⟨u,k⟩:=t c f;exact h.iK o (sv u) λz _=>k
def Pc.free (k:Vr ρ i.scope)(j:Fr ρ i.gh)(l:b.1=none):Pc L ρ m b i:=⟨k,λ_=>j,λc f=>by rw[l] at f;cases f⟩
end
section
variable {a:Nd}(h:Sh 0 a.2)
include a h
def Sh.XG (c:24<=a.2.kd/\a.2.kd<=36):0<a.2.fS.length/\Sh 0 (Px a 0).2:=by
 obtain⟨no,e⟩:=a;simp only at c h
 cases h with
 |pN _ b=>exact⟨ji _,b⟩
 |call b _ _=>exact⟨ji _,b⟩
 |one _ b=>exact⟨ji _,b⟩
 |two _ b _=>exact⟨ji _,b⟩
 |iH _ b _=>exact⟨ji _,b⟩
 |lit d=>simp only[Tr.kd] at c;omega
 |_=>simp only[Tr.kd] at c;omega
def Sh.nX (b:24<=a.2.kd/\a.2.kd<=31):1<a.2.fS.length/\Sh 0 (Px a 1).2:=by
 obtain⟨no,e⟩:=a;simp only at b h
 cases h with
 |two _ _ c=>exact⟨lj 2,c⟩
 |iH _ _ c=>exact⟨lj 2,c⟩
 |lit d=>simp only[Tr.kd] at b;omega
 |one d=>simp only[Tr.kd] at b;omega
 |_=>simp only[Tr.kd] at b;omega
def Sh.aKE (b:a.2.kd=24):(Px a 0).2.kd=23\/(Px a 0).2.kd=36:=by
 obtain⟨no,d⟩:=a;simp only at b h
 cases h with
 |iH c _ _=>exact c
 |lit c=>simp only[Tr.kd] at b;omega
 |one c=>simp only[Tr.kd] at b;omega
 |two c=>simp only[Tr.kd] at b;omega
 |_=>cases b
end
section
variable {a:Tr}
include a
def Sh.args (h:Sh 0 a)(c:27<=a.kd/\a.kd<=31\/a.kd=35):∀x ∈ a.fS,Sh 0 x:=by
 cases h with
 |call d e _=>
  intro x b
  rcases gE.1 b with rfl|b
  ·exact d
  ·exact e x b
 |two _ e d=>
  intro x b
  rcases gE.1 b with rfl|b
  ·exact e
  ·rw[gn.1 b];exact d
 |lit f=>simp only[Tr.kd] at c;omega
 |one f=>simp only[Tr.kd] at c;omega
 |_=>simp only[Tr.kd] at c;omega
def Sh.lB (h:Sh 0 a)(b:a.kd=37):∃e c,a.fS=[e,c]/\Sh 5 e/\Sh 4 c:=by
 cases h with
 |lB _ g f=>exact⟨_,_,rfl,g,f⟩
 |lit d=>simp only[Tr.kd] at b;omega
 |one d=>simp only[Tr.kd] at b;omega
 |two d=>simp only[Tr.kd] at b;omega
 |_=>cases b
def Sh.func (h:Sh 1 a)(b:a.kd=5):∃e d,a.fS=[e,d]/\Sh 5 e/\Sh 4 d:=by
 cases h with
 |func _ g f=>exact⟨_,_,rfl,g,f⟩
 |decl c=>simp only[Tr.kd] at b;omega
 |Y6 c=>cases c;cases b
 |loop c=>simp only[Tr.kd] at b;omega
 |h6 c=>simp only[Tr.kd] at b;omega
 |_=>cases b
def Sh.gG (h:Sh 1 a)(b:a.kd=6):∀x ∈ a.fS,Sh 1 x:=by
 cases h with
 |Y6 c=>cases c with|gG d=>exact d
 |decl c=>simp only[Tr.kd] at b;omega
 |loop c=>simp only[Tr.kd] at b;omega
 |h6 c=>simp only[Tr.kd] at b;omega
 |_=>cases b
def Sh.body (h:Sh 4 a):a.kd=6/\∀x ∈ a.fS,Sh 1 x:=by
 cases h with|body _ b=>exact⟨rfl,b⟩
def Sh.nm (h:Sh 0 a)(b:a.kd=23):a.tx≠PE:=by
 cases h with
 |name c=>exact c
 |lit c=>simp only[Tr.kd] at b;omega
 |one c=>simp only[Tr.kd] at b;omega
 |two c=>simp only[Tr.kd] at b;omega
 |_=>cases b
end
section
variable {d:List Us}{ρ ρ':Rh}{E b p:Nat}{i:Tr}{H:Int}{o:Bool}{a:Nd}{c:Pl}{I L F:St}
def XM (i:Tr):i.count=1+Tr.f5 i.fS:=by cases i;rw[Tr.count];rfl
def Pc.look (h:Pc d ρ 0 a c)(f:a.2.kd=23):∀b,a.1=some b->∃e,Cn ρ c.scope e/\a.2.tx≠PE/\((b:Int),(VN e a.2.tx true).1,(VN e a.2.tx true).2) ∈ d:=λb m=>by
 obtain⟨l,⟨g,e,n,k,j⟩,_⟩:=h.at' b m;refine⟨e,k,l.nm f,j _ ?_⟩;have:=XM a.2
 cases g with
 |zero=>omega
 |succ g=>rw[tl,fY f];exact gt
def yL {m:Int}(z:Vr ρ m)(C:∀b,a.1=some b->(a.2.kd=5\/a.2.kd=37)/\(∃l g,a.2.fS=[l,g]/\Sh 5 l/\Sh 4 g)/\∃f j,a.2.count<=f/\Cn ρ m (if a.2.kd==37 then ⟨b,[a.2.tx],false⟩::j else j)/\∀n ∈ tl f a.2 b j o,n ∈ d) :
  lm d ρ ⟨a,m,o||PU (Px a 1).2⟩:=by
 refine⟨z,λb r=>?_⟩;obtain⟨e,⟨l,g,k,w,s⟩,f,j,D,A,B⟩:=C b r;have v:=XM a.2;rw[k,PW,PW,P8] at v;have q:(Px a 1).2=g:=by rw[UK,k];rfl
 cases f with
 |zero=>omega
 |succ f=>
  refine⟨l,g,j,o,f,k,w,s,by omega,e,A,by rw[q],λn t=>B n ?_⟩;have u:PU a.2=false:=by unfold PU;rcases e with e|e <;> simp[e]
  rw[tl,fT Pv,fT Pv,fT Pv,fT Pv,fT Pv,fY e,k,u];simp only[ju];exact t
def Pc.fn (h:Pc d ρ 1 a c)(f:Uw a.2=true):lm d ρ ⟨a,c.scope,c.f3||PU (Px a 1).2⟩:=by
 have e:a.2.kd=5:=by simpa[Uw] using f
 refine yL h.vr λb n=>?_;obtain⟨m,⟨q,l,g,k,j⟩,_⟩:=h.at' b n;exact⟨.inl e,m.func e,q,l,g,by rw[e];exact k,j⟩
def w5 (m:Vr ρ c.scope)(r:a.1=none->Fr ρ c.gh)(n:∀b,a.1=some b->(∀i ∈ a.2.fS,Sh p i)/\(∃l k,Tr.f5 a.2.fS<=l/\Cn ρ c.scope k/\∀e ∈ il (tl l) a.2.fS (b+1) k c.f3,e ∈ d)/\(c.f3=true\/l4 a.2.fS=false\/Fr ρ c.gh)):∀x ∈ QA a,Pc d ρ p x c:=by
 intro x e
 cases j:a.1 with
 |none=>
  have f:x.1=none:=Xm a.2.fS x (by unfold QA at e;rw[j] at e;exact e)
  exact⟨m,λ_=>r j,λb g=>by rw[f] at g;cases g⟩
 |some b=>
  have f:x ∈ Xe (some (b+1)) a.2.fS:=by unfold QA at e;rw[j] at e;exact e
  obtain⟨v,⟨l,k,q,t,s⟩,u⟩:=n b j;refine⟨m,λg=>?_,λw g=>⟨v _ (zm f),FW q t s x f w g,u.imp id (.imp (Yz (zm f)) id)⟩⟩;obtain⟨A,z,rfl⟩:=sp _ _ _ f;cases g
end
section
variable {L:List Us}{ρ ρ' ρ1:Rh}{O e m:Nat}{f:Tr}{aI:Int}{ay:Bool}{b:Nd}{c:Pl}{a σ1 r:St}
abbrev W (L:List Us)(ρ:Rh)(a:St):Prop:=WI L ρ ρ.length a/\2<=ρ.length
def WO (L:List Us)(ρ:Rh)(a:St):Prop:=∃ρ',ρ <+:ρ'/\W L ρ' a
def WO.of (h:W L ρ a):WO L ρ a:=⟨ρ,hO,h⟩
def WO.bind (h:WO L ρ σ1)(e:∀ρ1,ρ <+:ρ1->W L ρ1 σ1->WO L ρ1 r):WO L ρ r:=by
 obtain⟨ρ1,d,j⟩:=h;obtain⟨ρ2,i,g⟩:=e ρ1 d j;exact⟨ρ2,d.trans i,g⟩
def WO.map (h:WO L ρ σ1)(e:∀ρ1,WI L ρ1 ρ1.length σ1->WI L ρ1 ρ1.length r):WO L ρ r:=h.bind fun ρ1 _ d=>.of ⟨e ρ1 d.1,d.2⟩
def WO.pre (i:ρ <+:ρ1)(h:WO L ρ1 a):WO L ρ a:=by
 obtain⟨ρ2,g,d⟩:=h;exact⟨ρ2,i.trans g,d⟩
def oW (h:2<=ρ.length)(x:Int×Option Sc):2<=(ρ++[x]).length:=by rw[gg];omega
def WI.gu (h:WI L ρ O a):a.gu=(ρ.length:Int):=by rw[h.ln]
def sd {b:Nd}{j:List PS}{k:Bool}{g:Option Sc}(h:g=b.1.map λe=>⟨e,j,k⟩):∀m,g=some m->m.own=own b/\m.gv=k/\m.jC=j:=by
 intro m d;rw[h] at d;unfold own
 cases i:b.1 with
 |none=>rw[i] at d;cases d
 |some e=>rw[i] at d;cases d;exact⟨rfl,rfl,rfl⟩
def yD {g:List PS}{d:Option Sc}{o j:Int}(n:j=(ρ.length:Int))(h:∀m,d=some m->m.jC=g):∀i ∈ g,Al (ρ++[(o,d)]) j i:=by
 intro i k;rw[n]
 cases l:d with
 |none=>exact Al.none Um _
 |some m=>exact Al.mem Um (by rw[h m l];exact k)
def aIm (h:W L ρ a)(o:Pc L ρ 0 b c)(d:b.2.kd=37):WO L ρ (Xz b c a).2:=by
 obtain⟨h,B⟩:=h;unfold Xz
 split
 ·rename_i g
  refine⟨ρ,hO,h.gd b c (yL o.vr λe p=>?_),B⟩;obtain⟨n,⟨A,u,k,i,t⟩,_⟩:=o.at' e p;refine⟨.inr d,n.lB d,A,u,k,?_,t⟩;rw[d];refine .skip (λE z=>?_) rfl i;rw[gn.1 (Xw.1 z)];exact g
 ·have q:=h.gu;obtain⟨g,D⟩:∃g:Option Sc,g=b.1.map λe=>⟨e,[b.2.tx],false⟩:=⟨_,rfl⟩;have s:=sd D;have n:=h.gv o.vr (-1) (own b) g (.inr ⟨Qq,rfl⟩) (λm j=>(s m j).1);have H:Vr (ρ++[(c.scope,g)]) a.gu:=⟨ρ.length,q,by simp⟩;have b0:lm L (ρ++[(c.scope,g)]) ⟨b,a.gu,c.f3||PU (Px b 1).2⟩:=by
   refine yL H λe p=>?_;obtain⟨n,⟨A,u,k,i,t⟩,_⟩:=o.at' e p;refine⟨.inr d,n.lB d,A,u,k,?_,t⟩;rw[d,q];have z:g=some ⟨e,[b.2.tx],false⟩:=by rw[D,p];rfl
   refine .room (o:=c.scope) ?_ (i.up ⟨_,rfl⟩);rw[<-z];exact Um
  have k:=n.gd b { c with scope:=a.gu } b0;have i:=k.ho a.gu b.2.tx 3 (gd b { c with scope:=a.gu } (a.gv c.scope (-1) (own b))).1 (yD q (λm j=>(s m j).2.2) _ (gn.2 rfl));refine⟨_,⟨_,rfl⟩,i.full λm j E C=>?_,oW B _⟩;rw[(s m j).2.2] at C;have F:=uv (r:=(gd b { c with scope:=a.gu } (a.gv c.scope (-1) (own b))).2) (tL a c.scope (own b)) rfl;have M:=pt F.n4 b.2.tx (b:=3) PK (gd b { c with scope:=a.gu } (a.gv c.scope (-1) (own b))).1;rw[<-q];exact M.nw E C
def x8 (i:f.kd≠5)(g:f.kd≠37)(d:me f=false):l4 f.fS=false:=by
 rw[vf,show Q7 f=false from by unfold Q7;simp[i,g]] at d
 simpa using (ly.1 d).2
def Sh.Mq (h:Sh 1 f)(d:f.kd=6):PU f=false:=by
 cases h with
 |Y6 g=>cases g with|gG i=>show (((6:Int)==1||(6:Int)==6)&&decide (PE=Wj))=false;decide
 |decl g=>simp only[Tr.kd] at d;omega
 |loop g=>simp only[Tr.kd] at d;omega
 |h6 g=>simp only[Tr.kd] at d;omega
 |_=>cases d
def Pc.gG (n:Pc L ρ 1 b c)(g:b.2.kd=6)(k:ρ <+:ρ'){j:Int}(z:Vr ρ' j)(t:∀e d,b.1=some e->Cn ρ c.scope d->Cn ρ' j (⟨e,gp b.2 false,false⟩::d)):∀x ∈ QA b,Pc L ρ' 1 x { c with scope:=j }:=by
 refine w5 z (λs=>(n.fr s).up k) λe p=>?_;obtain⟨o,⟨i,d,C,u,q⟩,A⟩:=n.at' e p;have D:=XM b.2
 cases i with
 |zero=>omega
 |succ i=>
  refine⟨o.gG g,⟨i,_,by omega,t e d p u,λB s=>q B ?_⟩,A.imp id (.imp (x8 Pv Pv) (·.up k))⟩;rw[tl,fT Pv,fT Pv,fY g,o.Mq g,ju];exact s
def av7 (h:W L ρ a)(g:Pc L ρ 1 b c)(o:b.2.kd=6):∃ρ',ρ <+:ρ'/\W L ρ' (QD b c a).2/\∀x ∈ QA b,Pc L ρ' 1 x (QD b c a).1:=by
 obtain⟨h,p⟩:=h
 by_cases k:(gp b.2 false).length=0
 ·have j:QD b c a=(c,a):=by unfold QD;rw[fY k]
  rw[j];refine⟨ρ,hO,⟨h,p⟩,g.gG o hO g.vr λe B _ i=>.skip (λl d=>?_) rfl i⟩;rw[lL.1 k] at d;cases d
 ·obtain⟨d,q⟩:∃d:Option Sc,d=b.1.map λe=>⟨e,gp b.2 false,false⟩:=⟨_,rfl⟩;have s:=sd q;have A:Vr (ρ++[(c.scope,d)]) (ρ.length:Int):=⟨ρ.length,rfl,by simp⟩;have n:=g.gG o (ρ':=ρ++[(c.scope,d)]) ⟨_,rfl⟩ A (λe B u i=>by
   have j:d=some ⟨e,gp b.2 false,false⟩:=by rw[q,u];rfl
   refine .room (o:=c.scope) ?_ (i.up ⟨_,rfl⟩);rw[<-j];exact Um)
  obtain⟨z,t⟩:=h.block g.vr d s k (λx u=>by
   have l:=ir.1 u;have:=(n x l.1).fn l.2;rw[h.gu];exact this)
  refine⟨_,⟨_,rfl⟩,⟨z,oW p _⟩,?_⟩;rw[t];exact n
def G9 (a:St)(g:Int)(d:PS)(i:Va)(fx:Bool):(a.Ru g d i fx).M.PL=a.M.PL:=yr _ _ _ _ _
def KY (i:List Va)(a:St):(Rx i a).2.M.PL=a.M.PL:=by
 have k:∀(d:List (Va×Nat))(g:Int)(a:St),(d.foldl (λa (l,j)=>a.Ru g (Y0 ⟨#[97]⟩ (nG j)) l false) a).M.PL=a.M.PL:=by
  intro d g
  induction d with
  |nil=>intro a;rfl
  |cons l d j=>intro a;rw[kg,j];exact G9 _ _ _ _ _
 unfold Rx;simp only;rw[k];exact G9 _ _ _ _ _
def WI.args (h:WI L ρ O a)(d:List Va):WI L ρ O (Rx d a).2:=by
 unfold Rx;simp only;refine WI.fold (P:=λ_=>True) (λa g _ h=>?_) _ (λ_ _=>trivial) ?_
 ·exact h.Ru _ _ _ _
 ·exact(h.Qo 0).Ru _ _ _ _
def ZM (b:Nd):List PS:=((Px b 0).2.fS.map Tr.tx++[RG])++gp (Px b 1).2 true
def YS {f:Tr}{d:PS}:d ∈ gp f true↔d ∈ QF f\/d ∈ (Ue f).map Tr.tx\/d ∈ (Qi f).map Tr.tx:=by
 unfold gp;rw[x2];simp only[hq,gB,or_assoc]
def ajB {f:Tr}{d:PS}:d ∈ gp f false↔d ∈ (Ue f).map Tr.tx\/d ∈ (Qi f).map Tr.tx:=by
 unfold gp;rw[x2];simp only[ic,ib,hy,gB]
def aAL (h:WI L ρ O a)(g:List Va)(t:∀e ∈ TK (Px b 1),lm L ρ ⟨e,c.scope,c.f3||PU (Px e 1).2⟩)(j:∀d ∈ ZM b,Al ρ c.scope d):WI L ρ O (S9 b c g a):=by
 unfold S9;simp only;have s:∀d,d ∈ (Px b 0).2.fS.map Tr.tx->Al ρ c.scope d:=λd i=>j d (iB _ (iB _ i));have i2:Al ρ c.scope RG:=j _ (iB _ (jI _ (gn.2 rfl)));have o:∀d,d ∈ gp (Px b 1).2 true->Al ρ c.scope d:=λd i=>j d (jI _ i);have l:WI L ρ O (((Px b 0).2.fS.zipIdx).foldl (λa (e,n)=>settle c.scope e.tx (g.getD n vU) a) a):=
  WI.fold (P:=λk:Tr×Nat=>Al ρ c.scope k.1.tx) (λa k j h=>h.settle _ _ _ j) _ (λk i=>s _ (iu (ou i))) h
 generalize ((Px b 0).2.fS.zipIdx).foldl (λa (e,n)=>settle c.scope e.tx (g.getD n vU) a) a=σ1 at l ⊢
 have p:WI L ρ O (if hasArgs (Px b 0).2.fS (Px b 1).2 then (Rx g σ1).2.ho c.scope gL 0 (Rx g σ1).1 else σ1):=by
  split
  ·exact(l.args g).ho _ _ _ _ i2
  ·exact l
 generalize (if hasArgs (Px b 0).2.fS (Px b 1).2 then (Rx g σ1).2.ho c.scope gL 0 (Rx g σ1).1 else σ1)=r at p ⊢
 have v:WI L ρ O ((QF (Px b 1).2).foldl (λa d=>a.ho c.scope d 0 vU) r):=
  WI.fold (P:=λd=>Al ρ c.scope d) (λa k j h=>h.ho _ _ _ _ j) _ (λk i=>o k (YS.2 (.inl i))) p
 have u:=v.lets (s:=c.scope) (Qi (Px b 1).2) (λf q=>o _ (YS.2 (.inr (.inr (iu q)))));exact u.funcs (Px b 1) c t (λe q=>o _ (YS.2 (.inr (.inl (by rw[<-tH];exact iu (f:=λe:Nd=>e.2.tx) q)))))
def L7 (h:N4 a.M c.scope)(j:List Va):∀i ∈ ZM b,K4 (S9 b c j a).M c.scope i:=by
 unfold S9;simp only;have o:D1 c.scope (((Px b 0).2.fS.zipIdx).map λk=>k.1.tx) a (((Px b 0).2.fS.zipIdx).foldl (λa (e,n)=>settle c.scope e.tx (j.getD n vU) a) a):=
  ri (b:=λk:Tr×Nat=>k.1.tx) (λa k h=>Kd h _ _) _ h
 generalize ((Px b 0).2.fS.zipIdx).foldl (λa (e,n)=>settle c.scope e.tx (j.getD n vU) a) a=σ1 at o ⊢
 have p:D1 c.scope (if hasArgs (Px b 0).2.fS (Px b 1).2 then [gL] else []) σ1 (if hasArgs (Px b 0).2.fS (Px b 1).2 then (Rx j σ1).2.ho c.scope gL 0 (Rx j σ1).1 else σ1):=by
  split
  ·have l:=uv (r:=(Rx j σ1).2) o.n4 (KY j σ1);exact l.trans (pt l.n4 gL (b:=0) PK _)
  ·exact D1.refl o.n4
 generalize (if hasArgs (Px b 0).2.fS (Px b 1).2 then (Rx j σ1).2.ho c.scope gL 0 (Rx j σ1).1 else σ1)=r at p ⊢
 have u:D1 c.scope ((QF (Px b 1).2).map id) r ((QF (Px b 1).2).foldl (λa i=>a.ho c.scope i 0 vU) r):=
  ri (b:=id) (λa k h=>pt h _ PK _) _ p.n4
 have t:=xC (Qi (Px b 1).2) u.n4;have v:=JH (Px b 1) c t.n4;have H:=(((o.trans p).trans u).trans t).trans v;intro i g;refine H.nw i ?_;rw[tH,List.map_id];have s:∀i,i ∈ (Px b 0).2.fS.map Tr.tx->i ∈ ((Px b 0).2.fS.zipIdx).map λk=>k.1.tx:=by
  intro i g;obtain⟨x,q,rfl⟩:=h4.1 g;obtain⟨n,l,rfl⟩:=jk q;exact h4.2 ⟨((Px b 0).2.fS[n],n),List.mem_zipIdx_iff_getElem?.2 (gq l),rfl⟩
 simp only[gB]
 rcases gB.1 g with g|g
 ·rcases gB.1 g with g|g
  ·exact .inl (.inl (.inl (.inl (s i g))))
  ·rw[gn.1 g]
   cases l:hasArgs (Px b 0).2.fS (Px b 1).2 with
   |true=>exact .inl (.inl (.inl (.inr (gn.2 rfl))))
   |false=>
    unfold hasArgs at l
    rcases Bool.and_eq_false_iff.1 l with l|l
    ·have d:((Px b 0).2.fS.any λe=>decide (e.tx=gL))=true:=by simpa using l
     obtain⟨x,q,d⟩:=jV.1 d;have w:x.tx=gL:=by simpa using d
     exact .inl (.inl (.inl (.inl (s gL (h4.2 ⟨x,q,w⟩)))))
    ·have d:hasB (gp (Px b 1).2 false) gL=true:=by simpa using l
     rcases ajB.1 (Xw.1 d) with d|d
     ·exact .inr d
     ·exact .inl (.inr d)
 ·rcases YS.1 g with d|d|d
  ·exact .inl (.inl (.inr d))
  ·exact .inr d
  ·exact .inl (.inr d)
structure WF (L:List Us)(F:Fx):Prop where
 v:∀{ρ d p σ},W L ρ σ->Pc L ρ 0 d p->WO L ρ (F.v d p σ).2
 s:∀{ρ d p l σ},W L ρ σ->Pc L ρ 1 d p->WO L ρ (F.s d p l σ).2
variable {g:Fx}
def uq (j:WF L g):∀(d:List Nd)(k:List Va){ρ:Rh}{a:St},W L ρ a->(∀b ∈ d,Pc L ρ 0 b c)->WO L ρ (Vq g c d k a).2
 |[],_,_,_,h,_=>.of h
 |b::d,k,ρ,a,h,n=>by
  have i:=j.v h (n b gt);rw[Vq]
  rcases T:g.v b c a with ⟨⟨v,s⟩,σ1⟩
  rw[T] at i
  cases s with
  |no=>exact WO.bind (σ1:=σ1) i fun ρ1 q o=>uq j d _ o λx p=>(n x (gO _ p)).up q
  |_=>exact i
def qW (k:WF L g):∀(i:List Nd){d:Option Va}{ρ:Rh}{a:St},W L ρ a->(∀b ∈ i,Pc L ρ 1 b c)->WO L ρ (Ti g c i d a).2
 |[],_,_,_,h,_=>.of h
 |b::i,d,ρ,a,h,n=>by
  have j:=k.s (l:=d) h (n b gt);rw[Ti]
  rcases T:g.s b c d a with ⟨⟨aM,s,t⟩,σ1⟩
  rw[T] at j
  cases s with
  |no=>
   dsimp only
   split
   ·exact j
   ·exact WO.bind (σ1:=σ1) j fun ρ1 q o=>qW k i o λx p=>(n x (gO _ p)).up q
  |_=>exact j
def Am {d:St->(Va×Er)×St}(h:W L ρ a)(k:∀i,W L ρ { a with fW:=i }->WO L ρ (d { a with fW:=i }).2):WO L ρ (within a d).2:=by
 unfold within
 split
 ·exact .of h
 ·have j:=k (a.fW+1) ⟨h.1.fW _,h.2⟩;exact j.map fun ρ1 i=>i.fW _
def Qf {f:Tr}(h:Xq f=false):l4 f.fS=false:=(ly.1 h).2
def av9 (X:WF L g)(h:W L ρ a){d:Fu}(b0:lm L ρ d)(A:List Va):WO L ρ (XC g d A a).2:=by
 unfold XC;refine Am h λbB al=>?_;obtain⟨h,M⟩:=al;have k:=h.gu
 generalize ({ a with fW:=bB }:St)=a at h k ⊢
 dsimp only
 obtain⟨o,u⟩:∃o:Option Sc,o=d.d.1.map λe=>⟨e,ZM d.d,!d.f3&&Xq (Px d.d 1).2⟩:=⟨_,rfl⟩;have z:=sd u;have ap:=h.gv b0.1 (-1) (own d.d) o (.inr ⟨Qq,rfl⟩) (λm n=>(z m n).1);have ae:Vr (ρ++[(d.scope,o)]) a.gu:=⟨ρ.length,k,by simp⟩;have D:∀x ∈ QA (Px d.d 1),Pc L (ρ++[(d.scope,o)]) 1 x ⟨a.gu,a.gu,d.f3⟩:=by
  refine w5 ae (λE=>?_) λe s=>?_
  ·refine⟨ρ.length,d.scope,k,.inl ?_⟩
   cases i:d.d.1 with
   |none=>rw[u,i];exact Um
   |some e=>
    exfalso;obtain⟨q,j,_,_,_,t,_⟩:=b0.2 e i;have:(Px d.d 1).1=some (e+1+q.count):=by
     unfold Px QA;rw[i,t];rfl
    rw[this] at E;cases E
  ·
   cases i:d.d.1 with
   |none=>rw[V9 i] at s;cases s
   |some p=>
    obtain⟨q,j,ah,ay,F,t,aD,ak,aE,aH,ax,C,H⟩:=b0.2 p i;have B:Px d.d 1=(some (p+1+q.count),j):=by
     unfold Px QA;rw[i,t];rfl
    have U:(Px d.d 0).2=q:=by rw[UK,t];rfl
    rw[B] at s ⊢;cases s;have af:Tr.f5 j.fS<=F:=by have:=XM j;omega
    refine⟨ak.body.2,⟨F,oc d.d.2 q j p ah ay,af,?_,λl R=>H l ?_⟩,?_⟩
    ·rw[k];unfold oc;refine .room (o:=d.scope) ?_ (ax.up ⟨_,rfl⟩);rw[Um,u,i,C];unfold ZM;rw[U,B];rfl
    ·rw[<-C];exact R
    ·
     cases au:d.f3 with
     |true=>exact .inl rfl
     |false=>
      cases l:Xq j with
      |false=>exact .inr (.inl (Qf l))
      |true=>
       refine .inr (.inr ⟨ρ.length,d.scope,k,.inr ⟨⟨p,ZM d.d,true⟩,?_,rfl⟩⟩);rw[Um,u,i,au,B]
       show some (d.scope,some (⟨p,ZM d.d,!false&&Xq j⟩:Sc))=_
       rw[l];rfl
 have ad:=aAL (b:=d.d) (c:=⟨a.gu,a.gu,d.f3⟩) ap A (λx i=>(D x (ir.1 i).1).fn (ir.1 i).2) (yD k λm n=>(z m n).2.2);have N:=ad.full (λm n j i=>by
  rw[(z m n).2.2] at i;have:=L7 (b:=d.d) (c:=⟨a.gu,a.gu,d.f3⟩) (tL a d.scope (own d.d)) A j i;rw[<-k];exact this)
 exact(qW X (QA (Px d.d 1)) (d:=none) ⟨N,oW M _⟩ D).pre ⟨_,rfl⟩
def NX (h:WI L ρ O a){i:Int}{d:PS}(j:Al ρ i d):WI L ρ O (gP i d a):=by
 unfold gP
 split
 ·exact h
 ·split
  ·exact h.Ru _ _ _ _
  ·exact h.ho _ _ _ _ j
def HW {d:Int}{x:Nat}(i:x=ρ.length):Fr (ρ++[(d,none)]) (x:Int):=⟨ρ.length,d,by rw[i],.inl Um⟩
def S0 (h:W L ρ a)(A:b.1=none)(q:Vr ρ c.scope)(t:Fr ρ c.gh):∃ρ',ρ <+:ρ'/\W L ρ' (P5 b c a).2/\Vr ρ' (P5 b c a).1.scope/\(P5 b c a).1.gh=c.gh:=by
 obtain⟨h,p⟩:=h;unfold P5;simp only;have j:WI L ρ ρ.length ((Uf b.2).foldl (λa o=>gP c.gh o a) a):=
  WI.fold (P:=λ_=>True) (λa i _ h=>NX h (t.al i)) _ (λ_ _=>trivial) h
 generalize (Uf b.2).foldl (λa o=>gP c.gh o a) a=σ1 at j ⊢
 obtain⟨d,l⟩:∃d:Pl×St,d=if 0<(Qi b.2).length then ({ c with scope:=σ1.gu },Q5 (Qi b.2) σ1.gu (σ1.gv c.scope (-1) (-3))) else (c,σ1):=⟨_,rfl⟩
 rw[<-l];have w:∃ρ',ρ <+:ρ'/\W L ρ' d.2/\Vr ρ' d.1.scope/\d.1.gh=c.gh:=by
  rw[l]
  split
  ·have E:=j.gv q (-1) (-3) none (.inl rfl) (λm n=>by cases n);have C:=E.lets (s:=σ1.gu) (Qi b.2) (λf _=>by rw[j.gu];exact(HW rfl).al _)
   exact⟨_,⟨_,rfl⟩,⟨C.full (λm n=>by cases n),oW p _⟩,⟨ρ.length,j.gu,by simp⟩,rfl⟩
  ·exact⟨ρ,hO,⟨j,p⟩,q,rfl⟩
 clear l;obtain⟨ρ',v,⟨u,B⟩,s,D⟩:=w;refine⟨ρ',v,⟨?_,B⟩,s,D⟩;refine WI.fold (P:=λe:Nd=>e ∈ TK b) (λa i z h=>?_) _ (λ_ h=>h) u;have k:lm L ρ' ⟨i,d.1.scope,d.1.f3||PU (Px i 1).2⟩:=⟨s,λe k=>by
  have:=(ir.1 z).1;unfold QA at this;rw[A] at this;rw[Xm _ _ this] at k
  cases k⟩
 exact(h.gd i d.1 k).write _ _ _
def asN (B:WF L g)(h:W L ρ a)(p:b.1=none)(o:Vr ρ c.scope)(b0:c.f3=true\/Fr ρ c.gh):WO L ρ (X6 g b c a).2:=by
 unfold X6;simp only
 split
 ·exact .of h
 ·obtain⟨d,j⟩:∃d:Pl×St,d=if (c.f3||PU b.2)=true then (⟨a.gu,a.gu,true⟩,a.gv c.scope (-1) (-3)) else ({ c with f3:=c.f3||PU b.2 },a):=⟨_,rfl⟩
  rw[<-j];have H:∃ρ',ρ <+:ρ'/\W L ρ' d.2/\Vr ρ' d.1.scope/\Fr ρ' d.1.gh:=by
   rw[j]
   split
   ·have l:=h.1.gv o (-1) (-3) none (.inl rfl) (λm i=>by cases i);refine⟨_,⟨_,rfl⟩,⟨l.full (λm i=>by cases i),oW h.2 _⟩,⟨ρ.length,h.1.gu,by simp⟩,?_⟩
    show Fr _ a.gu
    rw[h.1.gu];exact HW rfl
   ·rename_i au
    refine⟨ρ,hO,h,o,?_⟩
    rcases b0 with b0|b0
    ·rw[b0] at au;exact absurd rfl au
    ·exact b0
  clear j;obtain⟨ρ1,F,C,A,s⟩:=H;obtain⟨ρ2,n,q,u,t⟩:=S0 (b:=b) (c:=d.1) C p A s
  generalize P5 b d.1 d.2=k at q u t ⊢
  have D:=qW B (c:=k.1) (QA b) (d:=some vU) q (λx i=>Pc.free u (by rw[t];exact s.up n) (by
   unfold QA at i;rw[p] at i;exact Xm _ _ i))
  have z:=(D.pre n).pre F
  rcases T:Ti g k.1 (QA b) (some vU) k.2 with ⟨⟨aM,E,M⟩,σ1⟩
  rw[T] at z
  cases E with
  |_=>exact z
def OT (u:WF L g)(h:W L ρ a)(d:Tr){o:List Va}(v:Vr ρ c.scope)(w:Fr ρ 0)(t:d.kd=23->d.tx=TQ->c.f3=true\/Fr ρ c.gh):WO L ρ (Yp g d c o a).2:=by
 unfold Yp
 cases o with
 |nil=>exact .of h
 |cons s more=>
  dsimp only
  split
  ·exact .of h
  ·obtain⟨i,k⟩:∃i:Pl,i=if d.kd≠23\/d.tx≠TQ then ⟨1,0,false⟩ else c:=⟨_,rfl⟩
   rw[<-k];have q:Vr ρ i.scope/\(i.f3=true\/Fr ρ i.gh):=by
    rw[k]
    split
    ·exact⟨⟨1,rfl,h.2⟩,.inr w⟩
    ·rename_i n
     have p:d.kd=23/\d.tx=TQ:=by
      constructor
      ·exact oE λj=>n (.inl j)
      ·exact oE λj=>n (.inr j)
     exact⟨v,t p.1 p.2⟩
   clear k;refine Am h λz l=>?_
   cases Tj RS Rq s.s with
   |ok f=>
    dsimp only
    cases hD f i.f3 false false with
    |none=>exact asN u l rfl q.1 q.2
    |some j=>exact .of l
   |_=>exact .of l
end
section
variable {e:List Us}{ρ ρ' ρ1:Rh}{O f m:Nat}{q:Tr}{af:Int}{r:Bool}{a:Nd}{b:Pl}{σ i ae:St}{g:Fx}
def Pc.sub {k:Nat}(h:Pc e ρ m a b)(c:Nat)(j:∀f,a.1=some f->WZ a.2.kd/\c<a.2.fS.length/\Sh k (Px a c).2):Pc e ρ k (Px a c) b:=by
 cases d:a.1 with
 |none=>exact Pc.free h.vr (h.fr d) (V9 d c)
 |some f=>exact h.Z2 (j f d).1 c λn l=>(j n l).2
section
variable (h:Pc e ρ 0 a b)
include h
def Pc.k0 (c:24<=a.2.kd/\a.2.kd<=36):Pc e ρ 0 (Px a 0) b:=h.sub 0 λf d=>⟨by unfold WZ;omega,Sh.XG (h.at' f d).1 c⟩
def Pc.k1 (c:24<=a.2.kd/\a.2.kd<=31):Pc e ρ 0 (Px a 1) b:=h.sub 1 λf d=>⟨by unfold WZ;omega,Sh.nX (h.at' f d).1 c⟩
def Pc.ks (d:27<=a.2.kd/\a.2.kd<=31\/a.2.kd=35):∀x ∈ QA a,Pc e ρ 0 x b:=λx c=>h.iK (by unfold WZ;omega) c λf j=>Sh.args (h.at' f j).1 d _ (QW c)
end
def Sh.aIn (h:Sh 0 q)(c:q.kd=38):∀x ∈ q.fS,Sh 2 x:=by
 cases h with
 |obj j _=>exact j
 |lit d=>simp only[Tr.kd] at c;omega
 |one d=>simp only[Tr.kd] at c;omega
 |two d=>simp only[Tr.kd] at c;omega
 |_=>cases c
def Sh.aIo (h:Sh 2 a.2):WZ a.2.kd/\0<a.2.fS.length/\Sh 0 (Px a 0).2:=by
 obtain⟨no,q⟩:=a;simp only at h
 cases h with
 |gQ _ c=>exact⟨by show WZ 39;unfold WZ;decide,ji _,c⟩
def WI.SF (h:WI e ρ O σ):Fr ρ 0:=⟨0,-1,rfl,.inl h.g0⟩
def yZ (k:WF e g)(h:W e ρ σ)(j:Pc e ρ 0 a b):WO e ρ (UW g a b σ).2:=by
 have c:=k.v h j;unfold UW
 rcases d:g.v a b σ with ⟨⟨n,l⟩,i⟩
 rw[d] at c
 cases l with
 |no=>simp only;split <;> exact c
 |_=>exact c
section
variable (h:WI e ρ O σ)(j:Int)(d:PS)(k:Va)(r:Bool)
def asP:WI e ρ O (XA j d k r σ).2:=by
 unfold XA
 split
 ·exact h
 ·exact h.Ru _ _ _ _
def Ck:WI e ρ O (iH j d k r σ).2:=by
 have c:=h.write j d k;unfold iH;simp only
 split
 ·exact asP c _ _ _ _
 ·split
  ·exact c
  ·split
   ·exact c
   ·split <;> exact c
end
def NB (h:Sh 0 a.2)(l:a.2.kd=35)(d:(Px a 0).2.kd=23)(c:(Px a 0).2.tx=TQ):me a.2=true:=by
 rw[UK] at d c;rw[vf,m4];left;have k:=(Sh.XG h Pv).1;unfold ni;rw[l]
 cases j:a.2.fS with
 |nil=>rw[j] at k;exact absurd k Qh
 |cons x p=>
  rw[j] at d c;have n:x.kd=23:=d;have o:x.tx=TQ:=c;simp only[n,o]
  decide
def aAN (n:WF e g)(h:W e ρ σ)(j:Pc e ρ 0 a b)(p:a.2.kd=35):WO e ρ (Zk g a b σ).2:=by
 have k:=uq n (QA a) [] h (j.ks (.inr p));unfold Zk
 rcases T:Vq g b (QA a) [] σ with ⟨⟨D,B⟩,i⟩
 rw[T] at k
 rcases D with _|⟨C,t⟩
 ·exact k
 ·
  cases B with
  |no=>
   refine WO.bind (σ1:=i) k fun ρ1 o c=>?_;simp only
   split
   ·exact .of c
   ·split
    ·exact .of c
    ·split
     ·exact .of ⟨c.1.hF _,c.2⟩
     ·split
      ·refine OT n c _ (j.vr.up o) c.1.SF λu A=>?_
       cases s:a.1 with
       |none=>exact .inr ((j.fr s).up o)
       |some f=>
        obtain⟨z,_,d⟩:=j.at' f s
        rcases d with d|d|d
        ·exact .inl d
        ·rw[NB z p u A] at d;cases d
        ·exact .inr (d.up o)
      ·
       cases b0:i.SE[(i.M.gA C.n - 3).toNat]? with
       |none=>exact .of c
       |some d=>exact av9 n c (c.1.fn d (gC b0)) t
  |_=>exact k
def Et (n:WF e g)(aM:Int):∀(c:List Nd){ρ:Rh}{σ:St},W e ρ σ->(∀f ∈ c,Pc e ρ 0 (Px f 0) b)->WO e ρ (k3 g b aM c σ).2
 |[],_,_,h,_=>.of h
 |f::c,ρ,σ,h,j=>by
  have d:=n.v h (j f gt);rw[k3]
  rcases T:g.v (Px f 0) b σ with ⟨⟨v,s⟩,i⟩
  rw[T] at d
  cases s with
  |no=>exact WO.bind (σ1:=i) d fun ρ1 p k=>Et n aM c ⟨k.1.Ru _ _ _ _,k.2⟩ λx o=>(j x (gO _ o)).up p
  |_=>exact d
section
variable (d:WF e g)(h:W e ρ σ)(k:Pc e ρ 0 a b)
include d h k
def aIq (z:a.2.kd=24):WO e ρ (oG g a b σ).2:=by
 have s:=k.k0 Pv;have t:=k.k1 Pv;unfold oG;simp only
 split
 ·rename_i u
  have c:=d.v h (s.k0 Pv)
  rcases T:g.v (Px (Px a 0) 0) b σ with ⟨⟨C,j⟩,i⟩
  rw[T] at c
  cases j with
  |no=>
   refine WO.bind (σ1:=i) c fun ρ1 A o=>?_;simp only;have n:=d.v o (t.up A)
   rcases B:g.v (Px a 1) b i with ⟨⟨v,j⟩,ae⟩
   rw[B] at n
   cases j with
   |no=>
    simp only
    split
    ·exact n
    ·exact WO.map (σ1:=ae) n fun ρ2 p=>p.Ru _ _ _ _
   |_=>exact n
  |_=>exact c
 ·rename_i u
  have o:WI e ρ ρ.length (look (Px a 0) b σ).2:=h.1.look (Px a 0) b λf l=>by
   cases n:a.1 with
   |none=>rw[V9 n] at l;cases l
   |some A=>exact s.look ((Sh.aKE (k.at' A n).1 z).resolve_right u) f l
  have c:=d.v (σ:=(look (Px a 0) b σ).2) ⟨o,h.2⟩ t
  rcases T:g.v (Px a 1) b (look (Px a 0) b σ).2 with ⟨⟨v,j⟩,i⟩
  rw[T] at c
  cases j with
  |no=>exact WO.map (σ1:=i) c fun ρ2 p=>Ck p _ _ _ _
  |_=>exact c
def Ps (t:a.2.kd=34):WO e ρ (mc g a b σ).2:=by
 have n:=k.k0 Pv;unfold mc;simp only
 split
 ·exact .of ⟨h.1.drop _ _,h.2⟩
 ·split
  ·have l:=yZ d h (n.k0 Pv)
   rcases c:UW g (Px (Px a 0) 0) b σ with ⟨⟨s,j⟩,i⟩
   rw[c] at l
   cases j with
   |no=>
    simp only;have o:WO e ρ { i with M:=(i.M.cut s (Px a 0).2.tx).2 }:=WO.map (σ1:=i) l fun ρ2 p=>p.cut _ _
    split <;> exact o
   |_=>exact l
  ·have l:=d.v h n
   rcases c:g.v (Px a 0) b σ with ⟨⟨o,j⟩,i⟩
   rw[c] at l
   cases j with
   |_=>exact l
end
def OU (k:WF e g)(s:W e ρ σ)(j:Pc e ρ 0 a b):WO e ρ (ZQ g a b σ).2:=by
 have h:W e ρ σ.step:=⟨s.1.step,s.2⟩
 by_cases au:σ.steps<20000
 ·by_cases F:a.2.kd=17
  ·rw[yn au F];exact .of h
  by_cases H:a.2.kd=18
  ·rw[wG au H];exact .of h
  by_cases M:a.2.kd=19
  ·rw[xk au M];exact .of h
  by_cases N:a.2.kd=20
  ·rw[vk au N];exact .of h
  by_cases R:a.2.kd=21
  ·rw[zk au R];exact .of h
  by_cases t:a.2.kd=23
  ·rw[wK au t];have o:=h.1.look a b (j.look t);unfold p6;simp only
   split <;> exact .of ⟨o,h.2⟩
  by_cases u:a.2.kd=24
  ·rw[yS au u];exact aIq k h j u
  by_cases L:a.2.kd=25\/a.2.kd=26
  ·have c:ZQ g a b σ=mf g a b σ.step:=by rcases L with f|f;exact yT au f;exact we au f
   rw[c];have d:=k.v h (j.k0 Pv);unfold mf;have U{G}(h:G:=by
   cases c with
   |no=>
    simp only
    split
    ·exact d
    ·exact WO.bind (σ1:=i) d fun ρ1 p n=>k.v n ((j.k1 Pv).up p)
   |_=>exact d):=Pq h;exact m8
  by_cases D:27<=a.2.kd/\a.2.kd<=31
  ·have c:ZQ g a b σ=kZ g a b σ.step:=CE
   rw[c];have l:=uq k (QA a) [] h (j.ks (.inl D));unfold kZ
   rcases T:Vq g b (QA a) [] σ.step with ⟨⟨p,c⟩,i⟩
   rw[T] at l
   rcases p with _|⟨I,_|⟨O,p⟩⟩
   ·exact l
   ·exact l
   ·
    cases c with
    |_=>exact l
  by_cases X:a.2.kd=32
  ·rw[zd au X];have d:=k.v h (j.k0 Pv);unfold o9;exact td
  by_cases ad:a.2.kd=33
  ·rw[vi au ad];have d:=k.v h (j.k0 Pv);unfold nh
   split
   ·exact .of h
   ·exact td
  by_cases z:a.2.kd=34
  ·rw[yB au z];exact Ps k h j z
  by_cases A:a.2.kd=35
  ·rw[uW au A];exact aAN k h j A
  by_cases E:a.2.kd=36
  ·rw[uy au E];have o:=yZ k h (j.k0 Pv);unfold pb
   rcases T:UW g (Px a 0) b σ.step with ⟨⟨aM,c⟩,i⟩
   rw[T] at o
   cases c with
   |_=>exact o
  by_cases B:a.2.kd=37
  ·rw[uE au B];exact aIm h j B
  by_cases C:a.2.kd=38
  ·rw[yE au C];refine Et k _ (QA a) ⟨h.1.Qo 0,h.2⟩ λx p=>?_;have n:Pc e ρ 2 x b:=j.iK (by unfold WZ;omega) p λf l=>by
    have:=(j.at' f l).1;exact this.aIn C _ (QW p)
   exact n.sub 0 λf l=>(n.at' f l).1.aIo
  rw[rm au Pv];exact .of h
 ·rw[vK au];exact .of h
end
section
variable {a:Tr}(h:Sh 1 a)
include a h
def Sh.jG (d:a.kd=2\/a.kd=3\/a.kd=4\/a.kd=10\/a.kd=11\/a.kd=15):(∀x ∈ a.fS,Sh 0 x)/\(a.kd=11\/a.kd=15->a.fS.length=1):=by
 cases h with
 |decl c _ b=>exact⟨b,λe=>by simp only[Tr.kd] at e;omega⟩
 |h6 c b _ f=>exact⟨b,λe=>f (by simp only[Tr.kd] at e;omega)⟩
 |expr b=>exact⟨λx f=>by rw[gn.1 f];exact b,λ_=>rfl⟩
 |Y6 c=>cases c with|gG f=>simp only[Tr.kd] at d;omega
 |loop c=>simp only[Tr.kd] at d;omega
 |_=>simp only[Tr.kd] at d;omega
def Sh.lA (b:a.kd=7):∃k j i,a.fS=k::j::i/\Sh 0 k/\Sh 1 j/\∀g ∈ i,Sh 1 g:=by
 cases h with
 |lA e d=>exact⟨_,_,[],rfl,e,d,λg f=>by cases f⟩
 |qA e d f=>exact⟨_,_,[_],rfl,e,d,λg h=>by rw[gn.1 h];exact f⟩
 |decl c=>simp only[Tr.kd] at b;omega
 |Y6 c=>cases c;cases b
 |loop c=>simp only[Tr.kd] at b;omega
 |h6 c=>simp only[Tr.kd] at b;omega
 |_=>cases b
def Sh.loop (b:a.kd=8\/a.kd=9):∃e d,a.fS=[e,d]/\Sh 0 e/\Sh 1 d:=by
 cases h with
 |loop _ g f=>exact⟨_,_,rfl,g,f⟩
 |decl c=>simp only[Tr.kd] at b;omega
 |Y6 c=>cases c;simp only[Tr.kd] at b;omega
 |h6 c=>simp only[Tr.kd] at b;omega
 |_=>simp only[Tr.kd] at b;omega
def Sh.mj (b:a.kd=12):∃d e,a.fS=d::e/\Sh 1 d/\∀x ∈ e,Sh 7 x\/Sh 8 x:=by
 cases h with
 |mj f j g _=>exact⟨_,_,rfl,.Y6 f,λx i=>(gB.1 i).imp (j x) (g x)⟩
 |decl c=>simp only[Tr.kd] at b;omega
 |Y6 c=>cases c;cases b
 |loop c=>simp only[Tr.kd] at b;omega
 |h6 c=>simp only[Tr.kd] at b;omega
 |_=>cases b
end
def Sh.cat {a:Tr}(h:Sh 7 a):a.kd=13/\∃b,a.fS=[b]/\Sh 1 b:=by
 cases h with
 |cat _ c=>exact⟨rfl,_,rfl,.Y6 c⟩
def Sh.fin {a:Tr}(h:Sh 8 a):a.kd=14/\∃b,a.fS=[b]/\Sh 1 b:=by
 cases h with
 |fin c=>exact⟨rfl,_,rfl,.Y6 c⟩
section
variable {e:List Us}{ρ ρ' ρ1:Rh}{O f m z:Nat}{k:Tr}{aI:Int}{aJ:Bool}{a:Nd}{b:Pl}{σ i ay:St}{g:Fx}{n:Option Va}{aM:Oc}{c:Er}
def Pc.sat {j:Nat}(h:Pc e ρ m a b)(p:WZ a.2.kd)(d:Nat)(q:Sh m a.2->∃x,a.2.fS[d]?=some x/\Sh j x):Pc e ρ j (Px a d) b:=h.sub d λf r=>by
 obtain⟨x,l,o⟩:=q (h.at' f r).1;refine⟨p,(gs.1 l).1,?_⟩;rw[UK,hk,l];exact o
def Pc.jG (h:Pc e ρ 1 a b)(j:a.2.kd=2\/a.2.kd=3\/a.2.kd=4\/a.2.kd=10\/a.2.kd=11\/a.2.kd=15):∀x ∈ QA a,Pc e ρ 0 x b:=
 λx d=>h.iK (by unfold WZ;omega) d λf l=>(Sh.jG (h.at' f l).1 j).1 _ (QW d)
def I1 (j:WF e g)(h:W e ρ σ)(d:∀x ∈ QA a,Pc e ρ 0 x b):WO e ρ (U5 g (QA a) b σ).2:=by
 unfold U5
 split
 ·exact .of h
 ·rename_i f o l
  exact j.v h (d f (by rw[l];exact gt))
def Ba (o:WF e g):∀(f:Nat){ρ:Rh}{n:Option Va}{σ:St},W e ρ σ->Pc e ρ 0 (Px a 0) b->Pc e ρ 1 (Px a 1) b->WO e ρ (Zl g a b f n σ).2
 |0,_,_,_,h,_,_=>.of h
 |f+1,ρ,n,σ,h,r,s=>by
  have d:=o.v h r;rw[Zl]
  rcases T:g.v (Px a 0) b σ with ⟨⟨v,c⟩,i⟩
  rw[T] at d
  cases c with
  |no=>
   simp only
   split
   ·refine WO.bind (σ1:=i) d fun ρ1 p t=>?_;have j:=o.s (l:=n) t (s.up p)
    rcases A:g.s (Px a 1) b n i with ⟨⟨aM,c,B⟩,ay⟩
    rw[A] at j
    cases c with
    |no=>
     simp only
     split
     ·exact j
     ·exact WO.bind (σ1:=ay) j fun ρ2 q u=>Ba o f u ((r.up p).up q) ((s.up p).up q)
    |_=>exact j
   ·exact d
  |_=>exact d
section
variable (u:WF e g)(h:W e ρ σ)(p:Pc e ρ m a b)
include u h p
def zX (ad:∀f,a.1=some f->a.2.kd=13/\∃O,a.2.fS=[O]/\Sh 1 O):WO e ρ (XP g a b aM c n σ).2:=by
 unfold XP
 cases c with
 |Y3 v=>
  simp only;have r:=h.1.gu;obtain⟨o,C⟩:∃o:Option Sc,o=a.1.map λf=>⟨f,[a.2.tx],false⟩:=⟨_,rfl⟩;have s:=sd C;have U:=h.1.gv p.vr (-1) (own a) o (.inr ⟨Qq,rfl⟩) (λm j=>(s m j).1);have A:Vr (ρ++[(b.scope,o)]) σ.gu:=⟨ρ.length,r,by simp⟩;have D:=U.ho σ.gu a.2.tx 0 v (yD r (λm j=>(s m j).2.2) _ (gn.2 rfl));have L:=D.full (λm j t q=>by
   rw[(s m j).2.2] at q;rw[<-r];exact(pt (tL σ b.scope (own a)) a.2.tx (b:=0) PK v).nw t q)
  refine WO.pre (ρ1:=ρ++[(b.scope,o)]) ⟨_,rfl⟩ (u.s ⟨L,oW h.2 _⟩ ?_)
  cases d:a.1 with
  |none=>exact Pc.free A ((p.fr d).up ⟨_,rfl⟩) (V9 d 0)
  |some f=>
   obtain⟨_,⟨t,M,ah,N,X⟩,ae⟩:=p.at' f d;obtain⟨B,x,q,R⟩:=ad f d;have F:Px a 0=(some (f+1),x):=by
    unfold Px QA;rw[d,q];rfl
   have H:=XM a.2;rw[q,PW,P8] at H
   cases t with
   |zero=>omega
   |succ t=>
    rw[F];refine⟨A,(λc=>by cases c),λaf c=>?_⟩;cases c;refine⟨R,⟨t,⟨f,[a.2.tx],false⟩::M,by simp only;omega,?_,λaf E=>X af ?_⟩,ae.imp id (.imp (λh=>?_) (·.up ⟨_,rfl⟩))⟩
    ·show Cn _ σ.gu _
     rw[r];refine .room (o:=b.scope) ?_ (N.up ⟨_,rfl⟩);rw[Um,C,d];rfl
    ·have au:PU a.2=false:=by unfold PU;simp[B]
     rw[tl,fT Pv,fT Pv,fT Pv,fY B,q,au,ju,il,il,iX];exact E
    ·have:=x8 (f:=a.2) Pv Pv h;rw[q] at this;exact Yz gt this
 |_=>exact .of h
def Hj (l:∀f,a.1=some f->a.2.kd=14/\∃O,a.2.fS=[O]/\Sh 1 O):WO e ρ (V7 g a b aM c n σ).2:=by
 have s:Pc e ρ 1 (Px a 0) b:=p.sub 0 λf t=>by
  obtain⟨v,x,j,r⟩:=l f t;refine⟨by unfold WZ;omega,by rw[j];exact ji _,?_⟩
  rw[UK,j];exact r
 have d:=u.s (l:=n) h s;unfold V7
 rcases o:g.s (Px a 0) b n σ with ⟨⟨w,q,A⟩,i⟩
 rw[o] at d
 cases c with
 |stop=>exact .of h
 |_=>
  cases q with
  |no=>simp only;split <;> exact d
  |_=>exact d
end
def JU (o:WF e g):∀(p:List Nd){ρ:Rh}{aM:Oc}{c:Er}{n:Option Va}{σ:St},W e ρ σ->(∀f ∈ p,Pc e ρ 7 f b\/Pc e ρ 8 f b)->WO e ρ (kX g b p aM c n σ).2
 |[],_,_,_,_,_,h,_=>.of h
 |f::p,ρ,aM,c,n,σ,h,q=>by
  rw[kX];have s:WO e ρ (if f.2.kd=13 then XP g f b aM c n σ else V7 g f b aM c n σ).2:=by
   split
   ·rename_i t
    rcases q f gt with d|d
    ·exact zX o h d λbB j=>(d.at' bB j).1.cat
    ·exact zX o h d λbB j=>by have:=(d.at' bB j).1.fin.1;omega
   ·rename_i t
    rcases q f gt with d|d
    ·exact Hj o h d λbB j=>absurd (d.at' bB j).1.cat.1 t
    ·exact Hj o h d λbB j=>(d.at' bB j).1.fin
  generalize (if f.2.kd=13 then XP g f b aM c n σ else V7 g f b aM c n σ)=B at s ⊢
  exact s.bind fun ρ1 r u=>JU o p u λx A=>(q x (gO _ A)).imp (·.up r) (·.up r)
def Me (C:WF e g)(h:W e ρ σ)(o:Pc e ρ 1 a b)(t:a.2.kd=9):WO e ρ (oI g a b n σ).2:=by
 have H:Pc e ρ 0 (Px a 0) b/\∀(ρ1:Rh)(q:Int),ρ <+:ρ1->q=ρ1.length->Pc e (ρ1++[(b.scope,none)]) 1 (Px a 1) { b with scope:=q }:=by
  cases j:a.1 with
  |none=>exact⟨Pc.free o.vr (o.fr j) (V9 j 0),fun ρ1 q d au=>Pc.free ⟨ρ1.length,au,by simp⟩ (((o.fr j).up d).up ⟨_,rfl⟩) (V9 j 1)⟩
  |some f=>
   obtain⟨U,⟨s,E,ah,F,r⟩,M⟩:=o.at' f j;obtain⟨x,y,p,ad,af⟩:=U.loop (.inr t);have N:Px a 0=(some (f+1),x):=by
    unfold Px QA;rw[j,p];rfl
   have R:Px a 1=(some (f+1+x.count),y):=by
    unfold Px QA;rw[j,p];rfl
   have X:=XM a.2;rw[p,PW,PW,P8] at X;have au:PU a.2=false:=by unfold PU;simp[t]
   cases s with
   |zero=>omega
   |succ s=>
    rw[tl,fT Pv,fT Pv,fT Pv,fT Pv,fY t,p,au] at r;simp only[ju] at r;rw[N,R];have D:me a.2=false->me x=false/\me y=false:=λh=>by
     have:=x8 (f:=a.2) Pv Pv h;rw[p] at this;exact⟨Yz gt this,Yz (gO _ gt) this⟩
    refine⟨⟨o.vr,(λc=>by cases c),λae c=>?_⟩,fun ρ1 q d L=>⟨⟨ρ1.length,L,by simp⟩,(λc=>by cases c),λae c=>?_⟩⟩
    ·
     cases c;exact⟨ad,⟨s,E,by simp only;omega,F,λB u=>r B (iB _ u)⟩,M.imp id (.imp (λh=>(D h).1) id)⟩
    ·
     cases c;refine⟨af,⟨s,⟨0,[],true⟩::E,by simp only;omega,?_,λB u=>r B (jI _ u)⟩,M.imp id (.imp (λh=>(D h).2) λh=>(h.up d).up ⟨_,rfl⟩)⟩
     show Cn _ q _
     rw[L];exact .tF (o:=b.scope) Um rfl rfl ((F.up d).up ⟨_,rfl⟩)
 have A:=yZ C h H.1;unfold oI
 rcases T:UW g (Px a 0) b σ with ⟨⟨aM,c⟩,i⟩
 rw[T] at A
 cases c with
 |no=>
  refine WO.bind (σ1:=i) A fun ρ1 d j=>?_;have r:=j.1.gv (o.vr.up d) aM (-2) none (.inl rfl) (λm p=>by cases p);exact WO.pre (ρ1:=ρ1++[(b.scope,none)]) ⟨_,rfl⟩ (C.s ⟨r.full (λm p=>by cases p),oW j.2 _⟩ (H.2 ρ1 i.gu d j.1.gu))
 |_=>exact A
def aKH (o:WF e g)(al:W e ρ σ)(j:Pc e ρ 1 a b):WO e ρ (jB g z a b n σ).2:=by
 have h:W e ρ σ.step:=⟨al.1.step,al.2⟩
 by_cases au:σ.steps<20000
 ·by_cases ak:a.2.kd=2
  ·rw[vB au ak]
   split
   ·exact .of h
   ·rename_i F
    have d:=o.v h (j.jG (.inl ak) (Px a 0) (sv Pv));unfold oQ;have U{G}(h:G:=by
    cases c with
    |no=>exact WO.map (σ1:=i) d fun ρ2 M=>Ck M _ _ _ _
    |_=>exact d):=Pq h;exact m8
  by_cases aE:a.2.kd=3\/a.2.kd=4
  ·have F:jB g z a b n σ=((SG,(lD a b (U5 g (QA a) b σ.step)).1,n),(lD a b (U5 g (QA a) b σ.step)).2):=by
    rcases aE with f|f
    ·exact ul au f
    ·exact x7 au f
   rw[F];have d:=I1 o h (j.jG Pv);unfold lD
   rcases T:U5 g (QA a) b σ.step with ⟨⟨v,c⟩,i⟩
   rw[T] at d
   cases c with
   |no=>exact WO.map (σ1:=i) d fun ρ2 M=>M.start _ _ _
   |_=>exact d
  by_cases ap:a.2.kd=6
  ·rw[uX au ap];obtain⟨ρ1,u,B,t⟩:=av7 h j ap;exact(qW o (QA a) B t).pre u
  by_cases L:a.2.kd=7
  ·rw[wD au L];have A:WZ a.2.kd:=by unfold WZ;omega
   have E:Pc e ρ 0 (Px a 0) b:=j.sat A 0 λh=>by
    obtain⟨v,D,F,p,q,r,ad⟩:=h.lA L;exact⟨v,by rw[p];rfl,q⟩
   have N:Pc e ρ 1 (Px a 1) b:=j.sat A 1 λh=>by
    obtain⟨v,D,F,p,q,r,ad⟩:=h.lA L;exact⟨D,by rw[p];rfl,r⟩
   have R:2<a.2.fS.length->Pc e ρ 1 (Px a 2) b:=λH=>j.sat A 2 λh=>by
    obtain⟨v,D,F,p,q,r,ad⟩:=h.lA L;rw[p] at H ⊢
    cases F with
    |nil=>exact absurd H Qh
    |cons c F=>exact⟨c,rfl,ad c gt⟩
   have d:=o.v h E;unfold na;have U{G}(h:G:=by
   cases c with
   |no=>
    refine WO.bind (σ1:=i) d fun ρ1 u t=>?_;simp only
    split
    ·exact o.s t (N.up u)
    ·split
     ·rename_i H
      exact o.s t ((R H).up u)
     ·exact .of t
   |_=>exact d):=Pq h;exact m8
  by_cases ae:a.2.kd=8
  ·rw[us au ae];have A:WZ a.2.kd:=by unfold WZ;omega
   have E:Pc e ρ 0 (Px a 0) b:=j.sat A 0 λh=>by
    obtain⟨v,D,p,q,r⟩:=h.loop (.inl ae);exact⟨v,by rw[p];rfl,q⟩
   have N:Pc e ρ 1 (Px a 1) b:=j.sat A 1 λh=>by
    obtain⟨v,D,p,q,r⟩:=h.loop (.inl ae);exact⟨D,by rw[p];rfl,r⟩
   exact Ba o z h E N
  by_cases ax:a.2.kd=9
  ·rw[uJ au ax];exact Me o h j ax
  by_cases aH:a.2.kd=10
  ·rw[uC au aH];exact I1 o h (j.jG Pv)
  by_cases af:a.2.kd=11
  ·rw[vY au af];have d:WO e ρ (g.v (Px a 0) b σ.step).2:=o.v h (j.sub 0 λf C=>by
    have s:=Sh.jG (j.at' f C).1 Pv;have R:=s.2 (.inl af);exact⟨by unfold WZ;omega,by omega,s.1 _ (QW (sv Pv))⟩)
   unfold pP;exact td
  by_cases X:a.2.kd=12
  ·rw[wZ au X];have E:Pc e ρ 1 (Px a 0) b:=j.sat (by unfold WZ;omega) 0 λh=>by
    obtain⟨O,ad,p,q,r⟩:=h.mj X;exact⟨O,by rw[p];rfl,q⟩
   have gk:∀x ∈ (QA a).tail,Pc e ρ 7 x b\/Pc e ρ 8 x b:=λx F=>by
    have H:=List.mem_of_mem_tail F
    cases C:a.1 with
    |none=>exact .inl (j.iK (by unfold WZ;omega) H λf c=>by rw[C] at c;cases c)
    |some f=>
     obtain⟨O,ad,p,q,r⟩:=(j.at' f C).1.mj X;have aD:x.2 ∈ ad:=by
      have B:x.2 ∈ ((QA a).tail).map (·.2):=iu F;rw[List.map_tail] at B;unfold QA at B;rw[Yv,p] at B;exact B
     rcases r _ aD with s|s
     ·exact .inl (j.iK (by unfold WZ;omega) H λ_ _=>s)
     ·exact .inr (j.iK (by unfold WZ;omega) H λ_ _=>s)
   exact(o.s h E).bind fun ρ1 u t=>JU o _ t λx F=>(gk x F).imp (·.up u) (·.up u)
  by_cases ah:a.2.kd=15
  ·rw[yJ au ah];have d:WO e ρ (g.v (Px a 0) b σ.step).2:=o.v h (j.sub 0 λf C=>by
    have s:=Sh.jG (j.at' f C).1 Pv;have R:=s.2 (.inr ah);exact⟨by unfold WZ;omega,by omega,s.1 _ (QW (sv Pv))⟩)
   unfold nK;exact td
  rw[pE au Pv];exact .of h
 ·rw[xq au];exact .of h
def yF:∀z,WF e (fx z)
 |0=>⟨λh _=>.of h,λh _=>.of h⟩
 |z+1=>⟨λh d=>OU (yF z) h d,λh d=>aKH (yF z) h d⟩
def aAQ (x:Sc)(r:x.own=0):WI e ([(-1,none)]++[((0:Int),some x)]) [((-1:Int),(none:Option Sc))].length ii:=by
 refine⟨rfl,rfl,λd y s j l=>?_,λd y j=>?_,rfl,rfl,λd y aM m j l=>?_,λd aM m q l=>?_,(λz o=>by cases o),λt p=>by cases p⟩
 ·rcases d with _|_|d
  ·
   cases j;cases l;rfl
  ·
   cases j;cases l;rfl
  ·
   cases j
 ·rcases d with _|_|d
  ·
   cases j;decide
  ·
   cases j;show (0:Int)<((0+1:Nat):Int);decide
  ·
   cases j
 ·rcases d with _|_|d
  ·
   cases l
  ·
   cases j;cases l
   exact⟨rfl,by rw[r];rfl,λ_ c o=>by cases o⟩
  ·
   cases j
 ·rcases d with _|d
  ·
   cases l
  ·exact absurd q Qh
def Nj (x:Sc)(d:x.own=0):WI e ([(-1,none)]++[((0:Int),some x)]) [((-1:Int),(none:Option Sc))].length RU:=
 ((((aAQ x d).Qo 1).Ru 0 Xy (UU 1) false).Qo 2).Ru 0 TQ (UU 2) false
def aIj {k:Tr}{j:Nat}(D:Sh 9 k)(p:k.count<=j):∀S ∈ (Ui k).2.seen,Gd (tl j k 0 [] false) S:=by
 obtain⟨e,t⟩:∃e,e=tl j k 0 [] false:=⟨_,rfl⟩;rw[<-t];obtain⟨N,I⟩:k.kd=1/\∀x ∈ k.fS,Sh 1 x:=by
  cases D with
  |prog _ A=>exact⟨rfl,A⟩
 obtain⟨x,o⟩:∃x:Sc,x=⟨0,(Qi k).map Tr.tx,false⟩:=⟨_,rfl⟩;have R:=Nj (e:=e) x (by rw[o]);obtain⟨ρ,hρ⟩:∃ρ:Rh,ρ=[(-1,none)]++[((0:Int),some x)]:=⟨_,rfl⟩;have w:ρ[1]?=some (0,some x):=by rw[hρ];rfl
 have L:ρ[0]?=some (-1,none):=by rw[hρ];rfl
 have X:ρ.length=2:=by rw[hρ];rfl
 have q:∀y ∈ QA (some 0,k),Pc e ρ 1 y ⟨1,0,PU k⟩:=by
  refine w5 ⟨1,rfl,by omega⟩ (λc=>by cases c) λf A=>?_;cases A;have U:=XM k
  cases j with
  |zero=>omega
  |succ j=>
   refine⟨I,⟨j,[x],by simp only;omega,.room (i:=1) (o:=0) w .sK,λad C=>?_⟩,.inr (.inr ⟨0,-1,rfl,.inl L⟩)⟩
   have T:x=⟨((0:Nat):Int),(Qi k).map Tr.tx,false⟩:=o;rw[t,tl,fT Pv,fY N,hL,<-T];exact C
 have u:WI e ρ 1 ((QF k).foldl (fun σ d=>if σ.M.has 0 d then σ else σ.Ru 0 d vU true) RU):=by
  refine WI.fold (P:=λ_=>True) (fun σ l _ h=>?_) _ (λ_ _=>trivial) (by rw[hρ];exact R)
  split
  ·exact h
  ·exact h.Ru _ _ _ _
 have s:N4 ((QF k).foldl (fun σ d=>if σ.M.has 0 d then σ else σ.Ru 0 d vU true) RU).M 1:=by
  refine ZL (fun σ l h=>?_) _ Yy.2
  split
  ·exact h
  ·exact h.mi (Wv _ _ _ _ _) PK
 obtain⟨i,v⟩:∃i,i=(QF k).foldl (fun σ d=>if σ.M.has 0 d then σ else σ.Ru 0 d vU true) RU:=⟨_,rfl⟩;rw[<-v] at u s;have r:WI e ρ 1 (Q5 (Qi k) 1 i):=u.lets (Qi k) λy P=>by
  refine Al.mem (i:=1) w ?_;rw[o];exact iu P
 have M:=xC (s:=1) (Qi k) s;have E:WI e ρ ρ.length (Q5 (Qi k) 1 i):=by
  rw[hρ] at r ⊢;refine WI.full r λm A d p=>?_;cases A;rw[o] at p;exact M.nw d p
 have B:WI e ρ ρ.length (Rf (some 0,k) RU).2:=by
  unfold Rf;simp only;rw[<-v];refine WI.fold (P:=λy:Nd=>y ∈ TK (some 0,k)) (fun σ l A h=>?_) _ (λ_ h=>h) E;have:=ir.1 A;exact(h.gd l ⟨1,0,PU k⟩ ((q l this.1).fn this.2)).Ru _ _ _ _
 have H:=qW (yF 20002) (c:=(Rf (some 0,k) RU).1) (QA (some 0,k)) (d:=none) ⟨B,by omega⟩ q;obtain⟨ρ',_,F,_⟩:=H;exact F.se
end
end Hp
def CC {e:Nat->Prop}{d:Py}{a:Ad}(h:Rl e d a):∃b c,d.cell? (Pn a.p 3)=some (.slice b a.ks.length c)/\d.ownsRow 0 22 1 (.slice b a.ks.length c) (a.ks.map Ad.p).length ((a.ks.map Ad.p).map Pm)/\∀i,(Value.slice b a.ks.length c).ownBlock=some i->e i:=by
 obtain⟨_,_,_,_,l,k,f,j⟩:=h.cells;obtain⟨b,c,g⟩:=P7 f;rw[gF] at g;subst g;exact⟨b,c,k,f,j⟩
def zz {e:Nat->Prop}{d:Py}{g:List Sc}{c:Option Addr}(h:YD e d (.pointer c) g):∀b,Value.pointer c=QI b->b<d.heap.size:=by
 intro b a
 rcases h.form with h|⟨i,h,f⟩
 ·rw[h] at a;cases a
 ·rw[h] at a;cases a;exact f
def AZ {b:Ad}(h:b.tr.iA=0)(g:hz b.kd=2):∃c d e,b.ks=c::d::e:=by
 have a:=(Zd _ h).1;obtain⟨i,_,j⟩:=b.Yb;rw[i,j,g,gF] at a
 match f:b.ks with
 |[]=>rw[f] at a;exact absurd a PK
 |[x]=>rw[f] at a;simp at a
 |c::d::e=>exact⟨c,d,e,rfl⟩
def wu {B:Nat}(R:uP B){a:Ad}(ah:a.hU<=B+1){g:Nat->Prop}{p C:Nat}{k j M:List Nat}{l:List Us}{t:Option Addr}{v:List Sc}{d:Py}(S:k=j++(a.TB++M))(H:TW g p C k l d)(U:Rl g d a)(P:a.tr.iA=0)(I:YD g d (.pointer t) v)(L:l.length+a.hU<=20000){w:Option Addr}{z:Nat}(ad:d.ownsRow 0 22 1 (.slice w a.ks.length z) (a.ks.map Ad.p).length ((a.ks.map Ad.p).map Pm))(af:∀e,(Value.slice w a.ks.length z).ownBlock=some e->g e){E:Bool}{m:List PS}(N:m.length<=100000){i:Py}{b:Nat}{D:PO}(s:PG d i)(c:d.heap.size<=b)(f:i.heap[b]?=some (Xr (j.length:Nat) D false (.pointer t)))(r:QV d.heap.size i D m) :
  PN 79 #[QI p,.slice w a.ks.length z,RX (QI b) E] i λn q=>n=PY (.tuple #[])/\TW g p C k (l++il (tl B) a.tr.fS (j.length+1) (⟨(j.length:Nat),m,false⟩::v) E) q/\Fm g d q:=by
 have X:=H.more s;have u:∀F:Nat->Prop,Uz F d i:=λF b _ L=>s.block b L;have ak:=qa a;have h:=Zw R a.ks (λA f=>by have:=Xn a.ks A f;omega) _ p C k (j++[a.p]) M l (QI b) (⟨(j.length:Nat),m,false⟩::v) E _ i
  (by rw[S,WS];simp) X (λA f=>Rl.fQ (u _) _ (Rl.mono (λb c _=>fU c) _ (U.parts A f))) (Vs P)
  ⟨b,D,.pointer t,rfl,f4 ⟨c,fR f⟩,f,Zx r,λe o=>f4 ⟨(Qm r e o).2,(Qm r e o).1⟩,N,λae n=>by have:=zz I ae n;omega,YD.fQ (u _) _ _ (YD.mono (λb c _=>fU c) _ _ I)⟩
  (Qw (a:=λ_=>True) (u _) (λ_ _=>trivial) ad) (λe o=>fU (af e o)) Pv
 rw[gg,hZ,<-a.Yb.2.2] at h;refine h.mono ?_;rintro n q ⟨rfl,T,O⟩;exact⟨rfl,T.less H (λb c=>fU c),(Fm.of s).trans (O.less λb c=>fU c)⟩
def X5 {b:Int}{a:Int}(h:¬ b=a):(b==a)=false:=gT.2 h
def E4:∀S,uP S
 |0=>λa b=>by have:=xK a;omega
 |S+1=>by
  have O:=E4 S;intro a aU w k u t f ak X bH E j o P i n A D m;obtain⟨p,rfl⟩:=D.ptr;obtain⟨bj,bE,q,be,_⟩:=n.cells;obtain⟨ae,af,ap,aE,ax⟩:=CC n;obtain⟨bx,bB,a8⟩:=a.Yb;have bG:=qa a;have a7:∀v ∈ a.ks,v.hU<=S:=λv l=>by have:=Xn a.ks v l;omega
  have N:∀b,PG o b->PN 58 #[Pm a.p] b λC s=>C=PY (PD (PU a.tr))/\s=b:=λb c=>TG a.tr a.p b (UN.fQ (QT.nt n.nat) c);have a1:∀b,PG o b->(Instr.lookup 80 (.map (some u)) (Pm a.p) false).run prog b=.ok (Ph (f.length:Int)) b:=λb c=>i.num P (Fm.of c);have aT:t=(f++[a.p])++(Ad.RQ a.ks++ak):=by rw[P,WS];simp
  have bh:∀(b:Py)(ay:List Us)(aL:Bool),TW w k u t ay b->Fm w o b->ay.length+Ad.g1 a.ks<=20000->PN 79 #[QI k,.slice ae a.ks.length af,RX (.pointer p) aL] b λC s=>C=PY (.tuple #[])/\TW w k u t (ay++il (tl S) a.tr.fS (f.length+1) E aL) s/\Fm w o s:=by
   intro b ay aL au z g;have h:=Zw O a.ks a7 w k u t (f++[a.p]) ak ay (.pointer p) E aL _ b aT au (λv l=>Rl.fQ z.ht _ (n.parts v l)) (Vs A) (YD.fQ z.ht _ _ D) (Qw z.ht ax aE) ax g;rw[gg,hZ,<-a8] at h;refine h.mono ?_;rintro C s ⟨rfl,R,I⟩;exact⟨rfl,R,z.trans I⟩
  rw[tl,bx,bB]
  by_cases aI:a.kd=23
  ·rw[fY aI];rw[aI] at q;refine P4 o a.p k u f.length p j (PU a.tr) ae a.ks.length af a.tx _ _ w t X _ q be ap bj Pv i (λb c=>i.num P c) N (λb c=>wa E a.tx (.pointer p) b (YD.fQ (λd _ m=>c.block d m) _ _ D)) (λb au z=>?_);have h:=bh b _ (j||PU a.tr) au z (by rw[gg,hZ];omega)
   rw[hI] at h;exact h
  rw[fT aI]
  by_cases aH:a.kd=1
  ·rw[fY aH];rw[aH] at q;have bo:=Ad.VU a;have aR:=Tn a.tr.fS;have bb:=Vl a.tr;refine O1 o a.p k u f.length p j (PU a.tr) ae a.ks.length af ((Qi a.tr).map Tr.tx) _ q ap i.word.1 a1 (λb c=>?_) N (λb d bi c e l al=>wu O aU P i n A D m aE ax (by have:=TI a.tr;rw[gF];omega) c e l al)
   refine(tK a.tr a.p b (UN.fQ (QT.nt n.nat) c) Pv).mono ?_;rintro C s ⟨⟨g,rfl,B⟩,e⟩;exact⟨⟨g,rfl,D4 (Qi a.tr) g s B (by have:=TI a.tr;omega)⟩,e⟩
  rw[fT aH]
  by_cases aJ:a.kd=6
  ·rw[fY aJ];rw[aJ] at q;have bo:=Ad.VU a;exact tl6 o a.p k u f.length p j (PU a.tr) ae a.ks.length af (gp a.tr false) _ q ap i.word.1 a1 (λb c=>Yg a.tr a.p false b (UN.fQ (QT.nt n.nat) c) Pv) N (λb d bi c e l al=>wu O aU P i n A D m aE ax (by have:=AW a.tr false Pv;omega) c e l al)
  rw[fT aJ]
  by_cases aK:a.kd=13
  ·rw[fY aK];rw[aK] at q;exact Tu o a.p k u f.length p j (PU a.tr) ae a.ks.length af a.tx _ q ap i.word.1 a1 be N (λb d bi c e l al=>wu O aU P i n A D m aE ax Qh c e l al)
  rw[fT aK]
  by_cases aD:a.kd=9
  ·rw[fY aD];obtain⟨g,B,F,r⟩:=AZ A (by rw[aD];decide)
   rw[aD] at q;obtain⟨ah,aW,aX,_,bf,aQ,bm⟩:=n.wT r;have aM:g ∈ a.ks:=by rw[r];simp
   have ad:B ∈ a.ks:=by rw[r];simp
   have br:Ad.g1 a.ks=g.hU+(B.hU+Ad.g1 F):=by rw[r,Ad.g1,Ad.g1]
   have ba:a.tr.fS=g.tr::B.tr::F.map Ad.tr:=by rw[a8,r];rfl
   rw[ba];have bb:t=(f++[a.p])++(g.TB++(Ad.RQ (B::F)++ak)):=by rw[aT,r,Ad.RQ];simp
   have a6:t=(f++[a.p]++g.TB)++(B.TB++(Ad.RQ F++ak)):=by rw[bb,Ad.RQ];simp
   have aY:(f++[a.p]++g.TB).length=f.length+1+g.tr.count:=by rw[gg,gg,Ad.sA,Ad.VU];rfl
   have bv:=pY S g.tr (f.length+1) E (j||PU a.tr);have bz:=Ad.VU g;refine R5 o a.p k g.p B.p p j (PU a.tr) ah _ aW w (λs=>TW w k u t (X++tl S g.tr (f.length+1) E (j||PU a.tr)) s/\Fm w o s) _ q aX bf aQ Pv bj bm N (λb c=>?_) (λb L d bn U e l=>?_)
   ·have M:∀H:Nat->Prop,Uz H o b:=λH d _ m=>c.block d m;have h:=O g (a7 g aM) _ k u t (f++[a.p]) _ X (.pointer p) E (j||PU a.tr) b bb (i.more c) (Rl.fQ (M _) _ (Rl.mono (λd e _=>fU e) _ (n.parts g aM))) (Vs A g aM) (YD.fQ (M _) _ _ (YD.mono (λd e _=>fU e) _ _ D)) Pv;rw[gg,hZ] at h;refine h.mono ?_;rintro C s ⟨rfl,R,I⟩;exact⟨rfl,I,R.less i (λd e=>fU e),(Fm.of c).trans (I.less λd e=>fU e)⟩
   ·obtain⟨au,z⟩:=bn;have M:∀H:Nat->Prop,Uz H b L:=λH d _ m=>U.block d m;have aR:=YD.fQ z.ht _ _ D;have h:=O B (a7 B ad) _ k u t (f++[a.p]++g.TB) _ _ (QI d) (⟨0,[],true⟩::E) (j||PU a.tr) L a6 (au.more U) (Rl.fQ (M _) _ (Rl.mono (λd e _=>fU e) _ (Rl.fQ z.ht _ (n.parts B ad)))) (Vs A B ad)
     ⟨d,RF,.pointer p,rfl,f4 ⟨e,fR l⟩,l,Xu _ _,λah aZ=>(by cases aZ),ge _,λbq C=>by have:=zz aR bq C;omega,YD.fQ (M _) _ _ (YD.mono (λd e _=>fU e) _ _ aR)⟩ (by rw[gg];omega)
    rw[aY,hI] at h;refine h.mono ?_;rintro C s ⟨rfl,R,I⟩;exact⟨rfl,R.less i (λd e=>fU e),z.trans ((Fm.of U).trans (I.less λd e=>fU e))⟩
  rw[fT aD]
  by_cases T:a.kd=5\/a.kd=37
  ·rw[fY T];obtain⟨B,g,F,r⟩:=AZ A (by rcases T with v|v <;> rw[v] <;> decide);obtain⟨ah,aW,aX,_,bf,aQ,bm⟩:=n.wT r;have aM:B ∈ a.ks:=by rw[r];simp
   have ad:g ∈ a.ks:=by rw[r];simp
   have bb:=n.parts g ad;obtain⟨bA,bD,bv,bn,bz⟩:=CC bb;have br:Ad.g1 a.ks=B.hU+(g.hU+Ad.g1 F):=by rw[r,Ad.g1,Ad.g1]
   have bF:=qa g;have ba:a.tr.fS=B.tr::g.tr::F.map Ad.tr:=by rw[a8,r];rfl
   rw[ba];have a6:t=(f++[a.p]++B.TB++[g.p])++(Ad.RQ g.ks++(Ad.RQ F++ak)):=by rw[aT,r,Ad.RQ,Ad.RQ,WS g];simp
   have aY:(f++[a.p]++B.TB++[g.p]).length=f.length+1+B.tr.count+1:=by rw[gg,gg,gg,Ad.sA,Ad.VU];rfl
   refine PF o a.p k g.p p j (PU a.tr) (j||PU a.tr||PU g.tr) ah _ aW a.kd bA g.ks.length bD (λb L aR=>YD (λd=>w d\/(b.heap.size<=d/\d<L.heap.size)) L aR (oc a.tr B.tr g.tr f.length E (j||PU a.tr))) _ q aX aQ bv Pv T N (λb c=>?_) (λb L aR c bq U=>?_)
   ·exact LS a B g F r T w k u t f ak X (.pointer p) E (j||PU a.tr) b P (i.fQ c) (Rl.fQ (λd _ m=>c.block d m) _ n) A (YD.fQ (λd _ m=>c.block d m) _ _ D) Pv
   ·have M:∀H:Nat->Prop,Uz H o L:=λH d _ m=>(U.block d (gH m c.size)).trans (c.block d m);have h:=Zw O g.ks (λv l=>by have:=Xn g.ks v l;omega) _ k u t (f++[a.p]++B.TB++[g.p]) _ X aR _ (j||PU a.tr||PU g.tr) _ L a6 ((i.fQ c).more U) (λv l=>Rl.fQ (M _) _ (Rl.mono (λd e _=>fU e) _ (bb.parts v l))) (Vs (Vs A g ad)) bq (Qw (a:=λ_=>True) (M _) (λ_ _=>trivial) bn) (λah aZ=>fU (bz ah aZ)) Pv
    rw[aY,<-g.Yb.2.2] at h;refine h.mono ?_;rintro C s ⟨rfl,R,I⟩;exact⟨rfl,R.less i (λd e=>fU e),(Fm.of c).trans ((Fm.of U).trans (I.less λd e=>fU e))⟩
  rw[fT T]
  by_cases aO:a.kd=40
  ·rw[fY aO];rw[aO] at q;exact aKy o a.p k p j (PU a.tr) _ q N (λb c=>by rw[iX];exact⟨i.fQ c,Fm.of c⟩)
  rw[fT aO];exact R0 o a.p k p j (PU a.tr) a.kd ae a.ks.length af _ q ap (X5 aI) (X5 aH) (X5 aJ) (X5 aK) (X5 aD) (X5 λh=>T (fU h)) (X5 λh=>T (f4 h)) (X5 aO) N (λb c=>bh b X _ (i.fQ c) (Fm.of c) Pv)
mutual
def BT {c:Nat->Prop}{e:Py}:∀{d:Ad},Rl c e d->∀a ∈ d.TB,c a/\Cl e a
 |.mk k g l j i,h=>by
  have f:=h.cl;rw[Rl] at h;rw[Ad.TB];intro a b
  rcases gE.1 b with rfl|b
  ·exact⟨h.2.1,f⟩
  ·exact Gh h.2.2.2 a b
def Gh {d:Nat->Prop}{e:Py}:∀{c:List Ad},Sl d e c->∀b ∈ Ad.RQ c,d b/\Cl e b
 |[],_=>by rw[Ad.RQ];intro b a;cases a
 |f::c,h=>by
  rw[Sl] at h;rw[Ad.RQ];intro b a
  rcases gB.1 a with a|a
  ·exact BT h.1 b a
  ·exact Gh h.2 b a
end
def J4 {M:Nat->Prop}(a:Ad)(l:Py)(C:Rl M l a)(v:a.TB.Nodup)(E:a.tr.iA=0)(O:a.hU<=20000) :
  PN 19 #[Pm a.p] l λf m=>(∃k,f=PY k/\m.ownsRow 0 52 3 k (tl a.hU a.tr 0 [] false).length (Tc (tl a.hU a.tr 0 [] false)))/\PG l m:=by
 have F:=Y (DF a l C v Pv);have L:∀(b:Py)(d:Nat),l.heap.size<=d->PG l b->b.heap[d]?=some (.map (XF (VZ a.TB)) a.TB.length)->
   PN 39 #[QI b.heap.size,Pm a.p,RX Rz false] (b.alloc (.cells #[.map (some d),RF] 96)) λf m=>f=PY (.tuple #[]) /\
    (∃k,m.heap[b.heap.size]?=some (Qb #[.map (some d),k] 96)/\m.ownsRow 0 52 3 k (tl a.hU a.tr 0 [] false).length (Tc (tl a.hU a.tr 0 [] false)))/\PG l m:=by
  intro b d w e n;have g:PG b (b.alloc (.cells #[.map (some d),RF] 96)):=QK;have N:∀B:Nat->Prop,Uz B l (b.alloc (.cells #[.map (some d),RF] 96)):=λB j _ q=>(g.block j (gH q e.size)).trans (e.block j q);have I:Rl (λj=>j<b.heap.size) (b.alloc (.cells #[.map (some d),RF] 96)) a:=Rl.fQ (N _) _ (Rl.mono (λj _ q=>gH q e.size) _ C);have U:∀z ∈ a.TB,z<b.heap.size/\Cl (b.alloc (.cells #[.map (some d),RF] 96)) z:=BT I
  have S:TW (λj=>j<b.heap.size) b.heap.size d a.TB [] (b.alloc (.cells #[.map (some d),RF] 96)):=
   ⟨⟨RF,Pz _ _,⟨rfl,fU ⟨rfl,rfl⟩⟩,λj _ f=>(by cases f),λf=>(by cases f)⟩,by rw[g.block d (fR n)];exact n,fR n,λj o=>⟨gH o g.size,Nat.ne_of_lt o⟩,U,v⟩
  refine(E4 a.hU a Qq _ b.heap.size d a.TB [] [] [] Rz [] false _ Qh S I E rfl SC).mono ?_;rintro f m ⟨rfl,T,p⟩;obtain⟨⟨k,X,H,_⟩,_⟩:=T;rw[hy,kv] at H;refine⟨rfl,⟨k,X,H⟩,⟨p.os.trans (g.os.trans e.os),p.tape.trans (g.tape.trans e.tape),p.output.trans (g.output.trans e.output),gr e.size (gr g.size p.size),λi A=>?_⟩⟩;have u:i<b.heap.size:=gH A e.size
  exact(p.ht i u (gH u g.size)).trans ((g.block i u).trans (e.block i A))
 have s:=Y L
 generalize tl a.hU a.tr 0 [] false=ae at s
 generalize a.p=z at F s
 clear v E O L;go_enter func19,ntmps19;go_wp2_with fail;refine cm F.out ?_;rintro f b ⟨⟨d,rfl,w,n⟩,e⟩;have c:=Y (Pj s b d w e n);clear w n;go_wp2_with fail;refine XO ?_;rintro f ad ⟨rfl,⟨k,r,D⟩,o⟩;have R:=Y D;have P:=Y o;have af:ad.cell? (Pn b.heap.size 1)=some k:=by rw[cell_of r];rfl
 have q:=fR r;obtain⟨ak,ah,rfl⟩:=P7 D;clear r o;go_wp2;go_ret;exact⟨⟨_,rfl,R.out⟩,P.out⟩
abbrev iP:PS:=⟨#[102,117,110,99,116,105,111,110,32,102,40,97,41,32,123,32,114,101,116,117,114,110,32,97,59,32,125]⟩
abbrev p0:PS:=⟨#[97]⟩
abbrev xf:PS:=⟨#[102]⟩
def ye:List Tk:=[⟨2,QY,0,0⟩,⟨1,xf,0,9⟩,⟨5,TT,0,10⟩,⟨1,p0,0,11⟩,⟨5,U1,0,12⟩,⟨5,Uh,0,14⟩,⟨2,qI,0,16⟩,⟨1,p0,0,23⟩,⟨5,SH,0,24⟩,⟨5,Wn,0,26⟩,⟨6,PE,0,27⟩]
def qk:Tr:=.mk 1 PE 0 [.mk 5 xf 0 [.mk 40 PE 0 [.mk 23 p0 0 []],.mk 6 PE 0 [.mk 10 PE 0 [.mk 23 p0 0 []]]]]
def Oi:Vw RS Rq iP (Qk TP iP 0) []=.ok ye:=by
 have e:Qk TP iP 0=0:=by decide +kernel
 rw[e,TN RS Rq iP 0 [] 2 0 QY 8 PK Qz PK];have f:Qk TP iP 8=9:=by decide +kernel
 rw[f,TN RS Rq iP 9 _ 1 0 xf 10 PK Qz PK];have g:Qk TP iP 10=10:=by decide +kernel
 rw[g,TN RS Rq iP 10 _ 5 0 TT 11 PK Qz PK];have i:Qk TP iP 11=11:=by decide +kernel
 rw[i,TN RS Rq iP 11 _ 1 0 p0 12 PK Qz PK];have j:Qk TP iP 12=12:=by decide +kernel
 rw[j,TN RS Rq iP 12 _ 5 0 U1 13 PK Qz PK];have k:Qk TP iP 13=14:=by decide +kernel
 rw[k,TN RS Rq iP 14 _ 5 0 Uh 15 PK Qz PK];have l:Qk TP iP 15=16:=by decide +kernel
 rw[l,TN RS Rq iP 16 _ 2 0 qI 22 PK Qz PK];have c:Qk TP iP 22=23:=by decide +kernel
 rw[c,TN RS Rq iP 23 _ 1 0 p0 24 PK Qz PK];have d:Qk TP iP 24=24:=by decide +kernel
 rw[d,TN RS Rq iP 24 _ 5 0 SH 25 PK Qz PK];have a:Qk TP iP 25=26:=by decide +kernel
 rw[a,TN RS Rq iP 26 _ 5 0 Wn 27 PK Qz PK];have b:Qk TP iP 27=27:=by decide +kernel
 rw[b,Zy RS Rq iP 27 _ PK];rfl
def asx:Tj RS Rq iP=.ok qk:=by
 have b:Wy ye (ig ye KK)=.ok qk 10:=by kernel_rfl
 have a:qk.count=7:=by decide +kernel
 unfold Tj;rw[fT PK,Oi];simp only;rw[b];simp only;rw[a,fT PK]
def LF:qk.iA=0:=by decide +kernel
def aIf:tl 7 qk 0 [] false=[(6,1,true)]:=by decide +kernel
def J9 {d:Py}{i:PO}{b:List Us}(h:d.ownsRow 0 52 3 i b.length (Tc b))(a:Nat)(j:a<b.length):∃c f,i=.slice (some (Pn c 0)) b.length f/\c<d.heap.size/\d.cell? (Pn c (a * 3))=some (Ph (b[a]).1)/\d.cell? (Pn c (a * 3+1))=some (Ph (b[a]).2.1)/\d.cell? (Pn c (a * 3+2))=some (PD (b[a]).2.2):=by
 obtain⟨c,f,rfl,_,_⟩:=h.form Pv;have g:∀e,e<3->d.cell? (Pn c (a * 3+e))=(jz (b[a]))[e]?:=by
  intro e m;have o:=h.cellAt (a * 3+e) Pv;rw[o];have k:b=b.take a++(b[a]::b.drop (a+1)):=by rw[<-h7 j,jm]
  have n:Tc b=Tc (b.take a)++(jz (b[a])++Tc (b.drop (a+1))):=by
   conv=>lhs;rw[k]
   rw[Cy];rfl
  have l:(Tc (b.take a)).length=a * 3:=by rw[M5,hQ];omega
  rw[n,g5 Pv,l,lh,g6 (by simpa[jz] using m)]
 refine⟨c,f,rfl,(Qm h c rfl).1,?_,?_,?_⟩
 ·have:=g 0 Pv;simpa[jz] using this
 ·have:=g 1 Pv;simpa[jz] using this
 ·have:=g 2 Pv;simpa[jz] using this
def Mi (W:Py):(binOp .eql 52 (.agg #[Ph 6,Ph 1,PD true]) (.agg #[Ph 6,Ph 1,PD true])).run prog W=.ok (PD true) W:=by kernel_rfl
def WN (a:Py)(C:hK RS Rq a)(m:∀k ∈ Rq,1<=k.size)(D:kM a):PN 18 #[] a λe o=>e=PY (PD true)/\PG a o:=by
 have f:=Dg RS Rq iP a C m D;rw[asx] at f;have B:=Y f;clear m;go_enter func18,ntmps18;go_wp2_with fail;refine cm B.out ?_;rintro e E ⟨M,rfl,s,p⟩;obtain⟨d,b,rfl,A,l,_⟩:=QT.ad _ _ s;have n:d.hU=7:=by rw[<-Ad.VU,b];decide +kernel
 have g:=J4 d E A l (by rw[b];exact LF) Pv
 rw[n,b,aIf] at g;have c:=Y g;have j:=Y p
 generalize d.p=N at c
 clear l n b;go_wp2_with fail;refine XO ?_;rintro e F ⟨⟨O,rfl,r⟩,q⟩;obtain⟨k,I,rfl,L,v,w,z⟩:=J9 r 0 PK;have u:=Y (j.out.trans (q.mono j.out.size));have H:=Mi F;simp only[List.getElem_cons_zero] at v w z;go_wp2;go_ret;exact⟨rfl,u.out⟩
def Rb {c a:List PS}{f:PS}{b:Tr}(e:∀d ∈ a,1<=d.size)(h:Tj c a f=.ok b):Tf (λx=>x≠PE) (λ_=>True) (λ_=>True) 9 b:=(Jj e h).mono (λ_ h=>h.2) (λ_ _=>trivial) (λ_ _=>trivial)
def jx (b:List Us):List (Int×PO):=b.map λa=>(a.1,.agg (jz a).toArray)
def awd (a:List Us):(jx a).length=a.length:=by simp[jx]
def OY (b:List Us)(a:Us):jx (b++[a])=jx b++[(a.1,.agg (jz a).toArray)]:=by simp[jx]
section
variable {g f:Nat}{a:List Us}(h:Ord g f a)
include g f a h
def Ord.new {b:Nat}(d:b<a.length):(jx (a.take b)).find? (λc=>decide (a[b].1=c.1))=none:=by
 rw[jQ];intro c j;obtain⟨l,e,rfl⟩:=h4.1 j;obtain⟨k,i,rfl⟩:=jk e;rw[hQ] at i;rw[List.getElem_take];have:=List.pairwise_iff_getElem.1 h.1 k b Pv d Pv;simp only[nc];omega
def Ord.find {b:Us}(c:b ∈ a):(jx a).find? (λd=>decide (b.1=d.1))=some (b.1,.agg (jz b).toArray):=by
 have e:=h.1;clear h
 induction a with
 |nil=>cases c
 |cons d a i=>
  show List.find? _ ((d.1,Value.agg (jz d).toArray)::jx a)=_
  rw[jq];rw[List.pairwise_cons] at e
  rcases gE.1 c with rfl|c
  ·rw[hr rfl]
  ·have:=e.1 b c;rw[hi (by show ¬ b.1=d.1;omega)]
   exact i c e.2
end
namespace Hp
section
variable {bQ:PO}{w e:Py}{cQ:Addr}
def Oo {a:Tr}{d:Nat}{f:Nat->Prop}{b:Py}(k:QT f b a d)(j:a.iA=0)(i:a.count<=20000):PN 19 #[Pm d] b λm e=>(∃c,m=PY c/\e.ownsRow 0 52 3 c (tl a.count a 0 [] false).length (Tc (tl a.count a 0 [] false)))/\PG b e:=by
 obtain⟨g,c,rfl,l,n,_⟩:=QT.ad _ _ k;have h:=J4 g b l n (by rw[c];exact j) (by rw[<-Ad.VU,c];exact i)
 rw[<-Ad.VU,c] at h;exact h
def E2 (f:PS)(d:PN 9 #[PI f] w λc e=>c=PY (.tuple #[Rz,PD false])/\PG w e)(aT:Hid (∀a,PG w a->PN 18 #[] a λc e=>c=PY (PD true)/\PG a e)):PN 6 #[PI f] w λc e=>c=PY (PD true)/\PG w e:=by
 have d:=Y d;go_enter func6,ntmps6;go_wp2_with fail;refine cm d.out ?_;rintro c j ⟨rfl,a⟩;have L:=Y a;have b{G}(h:G:=by
 go_wp2_with fail;refine cm (Pj aT bn A.out) ?_;rintro c k ⟨rfl,g⟩;have i:=Y (A.out.trans (g.mono A.out.size));go_wp2;go_ret;exact⟨rfl,i.out⟩):=Pq h;exact zn
def qR {c d:Nat}{w e:Py}(h:Ap c d w e){a b:Nat}{g:PO}{bQ:Array MapEntry}{m:Nat}(i:w.heap[c]?=some (.map bQ m))(j:a<d)(f:w.cell? (Pn a b)=some g):e.cell? (Pn a b)=some g:=by
 have k:a≠c:=λl=>by
  subst l;simp[World.cell?,i] at f
 rw[gN (w:=w) (a:=(Pn a b)) (h.block a j k)];exact f
def aIi {aD:Py->Nat->Prop}(bL:PS)(m:Int)(x:PS)(aQ:Int)(aO:List PS)(s2:List (Int×Int))(d:List Us){cn bO:Nat}(b8:Ord cn bO d)(bN:∀bf ∈ s2,Gd d bf)(cJ:s2.length<=1000000000)(cG:d.length<=20000)(b7:Hid (PN 9 #[PI bL] w λc e=>∃o,c=PY (.tuple #[Pm o,PD true])/\aD e o/\PG w e))(aT:Hid (∀t,PG w t->PN 18 #[] t λc e=>c=PY (PD true)/\PG t e))(cx:Hid (∀j o t,PG w j->aD j o->PG j t->PN 11 #[Pm o] t λc e=>PG t e/\∃ax al F r,c=PY (.tuple #[nj (.slice ax aO.length al) (.slice F s2.length r) m aQ x,RI])/\e.ownsRow t.heap.size 54 2 (.slice F s2.length r) s2.length (s2.flatMap ma)))(bS:Hid (∀j o t,PG w j->aD j o->PG j t->PN 19 #[Pm o] t λc e=>(∃v,c=PY v/\e.ownsRow 0 52 3 v d.length (Tc d))/\PG t e)) :
  PN 6 #[PI bL] w λc e=>c=PY (PD true)/\PG w e:=by
 have bA:=Y b8;have cg:=Y bN;clear bN;have cr:=mkMap 48;go_enter func6,ntmps6;go_wp2_with fail;refine cm b7.out ?_;rintro c j ⟨o,rfl,a1,k⟩;have L:=Y k;have bW:=Y (λt g=>Pj cx j o t k a1 g);have b1:=Y (λt g=>Pj bS j o t k a1 g);clear a1;have b{G}(h:G:=by
 have ba:=Y bm;go_wp2_with fail;refine cm (Pj bW bn ba.out) ?_;rintro c aE ⟨ad,ax,al,F,r,rfl,cq⟩;obtain⟨z,af⟩:∃z,z=aE.alloc (.cells #[.slice ax aO.length al,Ph m,PI x,Ph aQ,.slice F s2.length r] 29):=⟨_,rfl⟩;have bG:z.heap[aE.heap.size]?=some (Qb #[.slice ax aO.length al,Ph m,PI x,Ph aQ,.slice F s2.length r] 29):=by rw[af];exact Pz _ _
 have a8:PG aE z:=by rw[af];exact QK
 obtain⟨X,aJ⟩:∃X,X=z.alloc (.map #[] 0):=⟨_,rfl⟩;have bE:PG z X:=by rw[aJ];exact QK
 have E:X.heap[z.heap.size]?=some (.map (XK (jx (d.take 0))) 0):=by rw[aJ];exact Pz _ _
 have aX:=a8.trans (bE.mono a8.size);have ci:=Y (fZ bE bG);have bX:=Y (Qs cq aX);have bH:=Y (A.out.trans ((ad.trans (aX.mono ad.size)).mono A.out.size));have bU:=Y (ba.out.trans ((ad.trans (aX.mono ad.size)).mono ba.out.size));have ck:=Y E;obtain⟨C,aH⟩:∃C,C=aE.heap.size:=⟨_,rfl⟩;obtain⟨f,ap⟩:∃f,f=z.heap.size:=⟨_,rfl⟩;have cy:Hid (w.heap.size<=f):=by
  show _<=_
  have q:=A.out.size;have R:=ad.size;have br:=a8.size;rw[ap];omega
 have b5:Hid (C<f):=by show _<_;rw[aH,ap,af];simp
 have cp:=Y af;have bR:=Y aJ;clear af bG aJ E
 go_wp2_with (first|rw[<-cp.out] |rw[<-bR.out])
 rw[<-aH,<-ap];refine cm (Pj b1 X bU.out) ?_;rintro c aW ⟨⟨v,rfl,s⟩,aI⟩;obtain⟨cP,bv,rfl⟩:=P7 s;have E:=Pj ck;have be:=Pj ci;rw[<-aH] at be;rw[<-ap] at E;have cj:=Y (fZ aI be);have bI:aW.heap[f]?=some (.map (XK (jx (d.take 0))) 0):=by rw[aI.block f (fR E)];exact E
 have H:=Y bI;have bY:=Y (Qs bX.out aI);have b6:=Y s;have bK:=Y (bH.out.trans (aI.mono bH.out.size));clear s E be bI aH ap cr;go_wp2_with fail
 go_loopw [8] (λl wr=>∃i:Nat,i<=d.length/\l=Ph i/\wr.heap[f]?=some (.map (XK (jx (d.take i))) i)/\Ap f aW.heap.size aW wr) (λl _=>d.length - (intOf l).toNat)
 case atStart=>exact⟨0,ge _,rfl,H.out,Ap.of RV⟩
 case round=>
  obtain⟨i,ay,rfl,u,p⟩:=hrel;have aL:=Y u;have bZ:=Y p
  by_cases M:i<d.length
  ·obtain⟨a,ae,s,ah,D,N,ak⟩:=J9 b6.out i M;have b{G}(h:G:=by
   have O:=qR p H.out ah D;have B:=qR p H.out ah N;have aU:=qR p H.out ah ak;have ce:(i:Int)<(d.length:Int):=Pv;have aK:(jx (d.take i)).length=i:=by rw[awd,hQ];omega
   have U:=NM 48 52 f (jx (d.take i)) d[i].1 (.agg (jz d[i]).toArray) wr.drew underlying48 (by rw[aK];exact u) (Ord.new bA.out M)
   rw[<-OY,<-ha M,aK] at U;have bb:Hid ((Q8 wr.drew f (.map (XK (jx (d.take (i+1)))) (i+1))).heap[f]?=some (.map (XK (jx (d.take (i+1)))) (i+1))):=by
    show _=_
    exact Xj (fR u)
   generalize d[i]=bi at D N ak O B aU U
   obtain⟨u1,u2,u3⟩:=bi;have bh:a<wr.heap.size:=gH ah p.size;have aY:a≠f:=λc=>by
    subst c;have:=Pj H;simp[World.cell?,this] at D
   clear u D N ak aK;go_wp2_with fail;refine wp_region_held (S:=λt=>t.cell? (Pn a (i * 3))=some (Ph u1)/\t.cell? (Pn a (i * 3+1))=some (Ph u2)/\t.cell? (Pn a (i * 3+2))=some (PD u3)) Qz ?_;change wpAnyH _ _ _ _ _ _ _ _ (World.drew _);have dI:(wr.drew).cell? (Pn a (i * 3))=some (Ph u1)/\(wr.drew).cell? (Pn a (i * 3+1))=some (Ph u2)/\(wr.drew).cell? (Pn a (i * 3+2))=some (PD u3):=⟨O,B,aU⟩;refine wh 0 (.map (some f)) dI ?_;refine wh 1 (.slice (some (Pn a 0)) d.length bv) dI ?_;refine wh 2 (Ph i) dI ?_
   refine wh 3 (PZ a (i * 3)) dI ?_;refine wh 4 (PZ a (i * 3)) dI ?_;refine wh 5 (Ph u1) dI ?_ (aZ:=fU ⟨by kernel_rfl,λt g=>by obtain⟨bD,bx,bz⟩:=g;go_simp⟩)
   refine wh 6 (.slice (some (Pn a 0)) d.length bv) dI ?_;refine wh 7 (Ph i) dI ?_;refine wh 8 (PZ a (i * 3)) dI ?_;refine wh 9 (.agg #[Ph u1,Ph u2,PD u3]) dI ?_ (aZ:=fU ⟨by kernel_rfl,λt g=>by obtain⟨bD,bx,bz⟩:=g;go_simp⟩)
   have a6:(Instr.mapUpdate 48 (.map (some f)) (Ph u1) (.agg #[Ph u1,Ph u2,PD u3])).run prog wr.drew=.ok () (Q8 wr.drew f (.map (XK (jx (d.take (i+1)))) (i+1))):=U;clear U;refine Yd 10 λK a7=>?_;go_simp;have aR:(Q8 wr.drew f (.map (XK (jx (d.take (i+1)))) (i+1))).cell? (Pn a (i * 3))=some (Ph u1)/\(Q8 wr.drew f (.map (XK (jx (d.take (i+1)))) (i+1))).cell? (Pn a (i * 3+1))=some (Ph u2)/\(Q8 wr.drew f (.map (XK (jx (d.take (i+1)))) (i+1))).cell? (Pn a (i * 3+2))=some (PD u3):=by
    have q:∀n,(Q8 wr.drew f (.map (XK (jx (d.take (i+1)))) (i+1))).cell? (Pn a n)=(wr.drew).cell? (Pn a n):=λn=>gN (w:=wr.drew) (a:=(Pn a n)) (RD aY);rw[q,q,q];exact dI
   refine a7.out _ _ aR (λ_=>?_);clear a6 aR dI;refine wpAnyH_done Qz ?_ _;go_simp;go_wp2
   go_roundw
   case rel=>exact⟨i+1,by omega,by go_num,bb.out,bZ.out.drew.trans (Ch _ _)⟩
   case measure=>simp[intOf];omega):=Pq h;exact Vt
  ·have a7:i=d.length:=Pv;subst a7;rw[gV] at aL;have bJ:wr.heap[C]?=some (Qb #[.slice ax aO.length al,Ph m,PI x,Ph aQ,.slice F s2.length r] 29):=by
    have q:=Pj cj;have R:=Pj b5;rw[p.block C (fR q) Pv];exact q
   have bb:=Y bJ;have bh:Hid (PG w wr):=bK.out.trans ((p.mono bK.out.size).below cy.out);have bP:Hid (∀i,(ay:i<s2.length)->∃a ae,(.slice F s2.length r:PO)=.slice (some (Pn a 0)) s2.length ae/\a<wr.heap.size/\wr.cell? (Pn a (2 * i))=some (Ph s2[i].1)/\wr.cell? (Pn a (2 * i+1))=some (Ph s2[i].2)):=λi ay=>by
    obtain⟨a,ae,q,R,br,n⟩:=TC bY.out i ay;exact⟨a,ae,q,gH R p.size,qR p H.out R br,qR p H.out R n⟩
   clear u bJ
   generalize wr=bB at bb bh bP aL ⊢
   go_wp2_with fail
   go_loopw [10] (λl n=>∃i:Nat,i<=s2.length/\l=Ph i/\PG bB n) (λl _=>s2.length - (intOf l).toNat)
   case atStart=>exact⟨0,ge _,rfl,RV⟩
   case round=>
    obtain⟨i,ay,rfl,k⟩:=hrel;have L:=Y k;obtain⟨cA,cM,cE,cC,cL,_,cO⟩:=iI (fZ k bb.out)
    by_cases M:i<s2.length
    ·obtain⟨a,ae,s,ah,D,N⟩:=Pj bP i M;have b{G}(h:G:=by
     have O:=PV k D;have B:=PV k N;rw[Nat.mul_comm 2 i] at O B;have u:wr.heap[f]?=some (.map (XK (jx d)) d.length):=by rw[k.block f (fR aL.out)];exact Pj aL
     obtain⟨bi,bq,U,a6⟩:=Pj cg s2[i] (gU M);have ak:=aiP 48 52 f d.length (jx d) s2[i].1 (.agg #[Ph 0,Ph 0,PD false]) wr underlying48 u Qz;rw[<-U,Ord.find bA.out bq,U] at ak
     generalize s2[i]=bf at O B ak U a6
     obtain⟨cB,b2⟩:=bf;obtain⟨u1,u2,u3⟩:=bi;simp only at U a6 O B ak;subst U;have cH:(Instr.lookup 48 (.map (some f)) (Ph u1) true).run prog wr=.ok (.tuple #[.agg #[Ph u1,Ph u2,PD u3],PD true]) wr:=ak;have ce:(i:Int)<(s2.length:Int):=Pv;obtain⟨n,aK⟩:∃n,n=wr.alloc (.cells #[Ph u1,Ph u2,PD u3] 52):=⟨_,rfl⟩;have bF:PG wr n:=by rw[aK];exact QK
     have bo:PG bB n:=k.trans (bF.mono k.size);have aR:n.heap[wr.heap.size]?=some (Qb #[Ph u1,Ph u2,PD u3] 52):=by rw[aK];exact Pz _ _
     obtain⟨aM,aY⟩:∃aM,aM=wr.heap.size:=⟨_,rfl⟩;rw[<-aY] at aR;have cz:=Y bo;have cw:=Y aK;have bD:n.cell? (Pn aM 1)=some (Ph u2):=by rw[cell_of aR];rfl
     have bx:n.cell? (Pn aM 2)=some (PD u3):=by rw[cell_of aR];rfl
     have bz:n.cell? (Pn C 4)=some (.slice (some (Pn a 0)) s2.length r):=(iI (fZ bo bb.out)).2.2.2.2.1;have cK:n.cell? (Pn a (i * 2+1))=some (Ph b2):=PV bF B;clear ak D N aR aK u bq
     go_wp2_with (rw[<-cw.out,<-aY])
     subst aY
     cases u3 with
     |true=>
      have b3:=a6 rfl;subst b3;refine wp_region_held (S:=λt=>t=n.drew) Qz ?_;refine l6 ?_;refine Ig ?_;refine wh 4 (PD true) rfl ?_ (aZ:=fU ⟨by kernel_rfl,λt g=>by cases g;go_simp⟩)
      refine wh 5 (PD true) rfl ?_;refine wh 6 (PZ wr.heap.size 1) rfl ?_;refine wh 7 (Ph u2) rfl ?_ (aZ:=fU ⟨by kernel_rfl,λt g=>by cases g;go_simp⟩)
      refine wh 8 (PZ C 4) rfl ?_;refine wh 9 (.slice (some (Pn a 0)) s2.length r) rfl ?_ (aZ:=fU ⟨by kernel_rfl,λt g=>by cases g;go_simp⟩)
      refine wh 10 (Ph i) rfl ?_;refine wh 11 (PZ a (i * 2)) rfl ?_;refine wh 12 (PZ a (i * 2+1)) rfl ?_;refine wh 13 (Ph u2) rfl ?_ (aZ:=fU ⟨by kernel_rfl,λt g=>by cases g;go_simp⟩)
      refine wh 14 (PD false) rfl ?_;exact zL
     |false=>
      refine wp_region_held (S:=λt=>t=n.drew) Qz ?_;refine l6 ?_;refine Ig ?_;refine wh 4 (PD false) rfl ?_ (aZ:=fU ⟨by kernel_rfl,λt g=>by cases g;go_simp⟩)
      refine wh 5 (PD false) rfl ?_;refine wh 6 undef rfl ?_ (aZ:=f4 ⟨by kernel_rfl,rfl⟩);refine wh 7 undef rfl ?_ (aZ:=f4 ⟨by kernel_rfl,rfl⟩);refine wh 8 undef rfl ?_ (aZ:=f4 ⟨by kernel_rfl,rfl⟩);refine wh 9 undef rfl ?_ (aZ:=f4 ⟨by kernel_rfl,rfl⟩);refine wh 10 undef rfl ?_ (aZ:=f4 ⟨by kernel_rfl,rfl⟩);refine wh 11 undef rfl ?_ (aZ:=f4 ⟨by kernel_rfl,rfl⟩);refine wh 12 undef rfl ?_ (aZ:=f4 ⟨by kernel_rfl,rfl⟩);refine wh 13 undef rfl ?_ (aZ:=f4 ⟨by kernel_rfl,rfl⟩);refine wh 14 undef rfl ?_ (aZ:=f4 ⟨by kernel_rfl,rfl⟩)
      exact zL):=Pq h;exact Vt
    ·have a7:i=s2.length:=Pv;subst a7;go_wp2;go_ret;exact⟨rfl,bh.out.trans (L.out.mono bh.out.size)⟩):=Pq h;exact zn
