import Derived.Test.YticfnaiehdpbmaaGreatDoorWa2
import Derived.ChangeAlike
import Derived.Deep.DrawnRows
import Derived.Deep.AppendLies
set_option maxRecDepth 100000
set_option maxHeartbeats 0
set_option linter.all false
namespace Go.Proofs.YticfnaiehdpbmaaGreatDoor
open Go.RowKit Go.Proofs.Tryz
def PQ (x:PS)(a:Py)(i:1<=x.size)(f:x.size<=10)(c:∀d,(g:d<x.size)->RJ (x[d].toNat:Int)=true) :
  PN 216 #[PI x] a λb e=>b=PY (.tuple #[Ph (YB x.data.toList),RI])/\PG a e:=by
 have g:=Y c;clear c;go_enter func216,ntmps216;go_wp2_with fail;refine(KS x a i f g.out).mono ?_;rintro b j ⟨rfl,d⟩;go_wp2
 go_ret2
 exact⟨rfl,d⟩
def CI (x:PS):x.data.toList.length=x.size:=by simp
def wf (d:Int->Bool)(c:PS):∀i a,i+a=c.size->∀b,a<=b->b<Qk d c a->(g:b<c.size)->d (c[b].toNat:Int)=true
 |0,a,j,b,k,e,g=>by omega
 |i+1,a,j,b,k,e,g=>by
  cases f:d ((c[a]'Pv).toNat:Int)
  ·rw[Bm d c a Pv f] at e;omega
  ·by_cases l:b=a
   ·subst l;exact f
   ·rw[<-Zq d c a Pv f] at e;exact wf d c i (a+1) Pv b Pv e g
def xx (a:PS)(b c d:Nat)(f:c<=a.size)(e:d<(a.extract b c).size):(a.extract b c)[d]=a[b+d]'(by simp at e;omega):=by
 simp[ByteArray.getElem_extract]
def rdNum (b:PS)(a:Nat):Rd:=
 if 10<Qk RJ b a - a then .ga 3 a
 else if 1<Qk RJ b a - a/\(((b.data.toList.getD a 0).toNat:Nat):Int)=48 then .ga 3 a
 else if 1000000000<YB (b.extract a (Qk RJ b a)).data.toList then .ga 2 a
 else .tok 3 ⟨#[]⟩ (YB (b.extract a (Qk RJ b a)).data.toList) (Qk RJ b a)
section
variable (c:PS)(a b:Nat)(w:Py)(D:c.size<=3000)(t:a<c.size)(m:Qk RJ c a=b)(H:a<b)(l:b<=c.size)
include c a b w D t m H l
def To (d:10<b - a) :
  PN 143 #[PI c,Ph (a:Int)] w (Vb a (.ga 3 a) w):=Gy
def Se (g:0<(c.extract a b).size)(i:¬ 10<b - a)(d:1<b - a)(j:(((c.extract a b)[0].toNat:Int)==48)=true) :
  PN 143 #[PI c,Ph (a:Int)] w (Vb a (.ga 3 a) w):=Gy
def O2 (X:0<(c.extract a b).size)(d:Int)(i:YB (c.extract a b).data.toList=d)(ad:¬ 10<b - a)(N:1<b - a)(ae:(((c.extract a b)[0].toNat:Int)==48)=false)(o:1000000000<d) :
  PN 143 #[PI c,Ph (a:Int)] w (Vb a (.ga 2 a) w):=by
 have q{G}(h:G:=by
 clear hG n;exact xG):=Pq h;exact Hz
def KH (F:0<(c.extract a b).size)(d:Int)(i:YB (c.extract a b).data.toList=d)(N:¬ 10<b - a)(E:1<b - a)(O:(((c.extract a b)[0].toNat:Int)==48)=false)(o:¬ 1000000000<d) :
  PN 143 #[PI c,Ph (a:Int)] w (Vb a (.tok 3 ⟨#[]⟩ d b) w):=GH
def ajg (d:Int)(i:YB (c.extract a b).data.toList=d)(E:¬ 1<b - a)(o:¬ 1000000000<d) :
  PN 143 #[PI c,Ph (a:Int)] w (Vb a (.tok 3 ⟨#[]⟩ d b) w):=GH
end
def J1 (b:PS)(a:Nat)(i:Py)(k:b.size<=3000)(g:a<b.size)(t:RJ (b[a].toNat:Int)=true) :
  PN 143 #[PI b,Ph (a:Int)] i (Vb a (rdNum b a) i):=by
 have l:a<Qk RJ b a:=by rw[<-Zq RJ b a g t];have:=Vx RJ b (a+1);omega
 have c:=UA RJ b a Pv;have w:=extract_size b a (Qk RJ b a) Pv c;have n:0<(b.extract a (Qk RJ b a)).size:=Pv;have r:(b.extract a (Qk RJ b a))[0]=b[a]:=by rw[xx b a _ 0 c n];rfl
 have q:=oq b a g
 by_cases e:10<Qk RJ b a - a
 ·have d:rdNum b a=.ga 3 a:=by unfold rdNum;rw[fY e]
  rw[d];exact To b a _ i k g rfl l c e
 ·by_cases j:1<Qk RJ b a - a
  ·by_cases o:((b[a].toNat:Nat):Int)=48
   ·have d:rdNum b a=.ga 3 a:=by unfold rdNum;rw[fT e,fY ⟨j,by rw[q];exact o⟩]
    rw[d];exact Se b a _ i k g rfl l c n e j (by rw[r];exact km.2 o)
   ·have p:(((b.extract a (Qk RJ b a))[0].toNat:Int)==48)=false:=by rw[r];exact gT.2 o
    have m:¬ (1<Qk RJ b a - a/\(((b.data.toList.getD a 0).toNat:Nat):Int)=48):=λh=>o (by have:=h.2;rw[q] at this;exact this)
    by_cases f:1000000000<YB (b.extract a (Qk RJ b a)).data.toList
    ·have d:rdNum b a=.ga 2 a:=by unfold rdNum;rw[fT e,fT m,fY f]
     rw[d];exact O2 b a _ i k g rfl l c n _ rfl e j p f
    ·have d:rdNum b a=.tok 3 ⟨#[]⟩ (YB (b.extract a (Qk RJ b a)).data.toList) (Qk RJ b a):=by unfold rdNum;rw[fT e,fT m,fT f]
     rw[d];exact KH b a _ i k g rfl l c n _ rfl e j p f
  ·have m:¬ (1<Qk RJ b a - a/\(((b.data.toList.getD a 0).toNat:Nat):Int)=48):=λh=>j h.1;have hG:∀p ∈ (b.extract a (Qk RJ b a)).data.toList,RJ (p.toNat:Int)=true:=EX
   have s:=(wI _ hG).2;have u:(b.extract a (Qk RJ b a)).data.toList.length=1:=by rw[CI];omega
   rw[u] at s;have f:¬ 1000000000<YB (b.extract a (Qk RJ b a)).data.toList:=Pv;have d:rdNum b a=.tok 3 ⟨#[]⟩ (YB (b.extract a (Qk RJ b a)).data.toList) (Qk RJ b a):=by unfold rdNum;rw[fT e,fT m,fT f]
   rw[d];exact ajg b a _ i k g rfl l c _ rfl j f
def Xo (d c:List PS)(b:PS)(a:Nat):Rd:=
 if mn ((bt b a).toNat:Int)=true then Vy d b a
 else if RJ ((bt b a).toNat:Int)=true then rdNum b a
 else if bt b a=39 then rdStr b a
 else WT c b a
structure hK (bc bC:List PS)(w:Py):Prop where
 lw:bc.length=19
 lg:bC.length=19
 zg:∀i,i<19->(bC.getD i ByteArray.empty).size<=3
 hw:∃t fr,w.heap[6]?=some (.cells (bc.map Value.string).toArray t fr)
 hg:∃t fr,w.heap[2]?=some (.cells (bC.map Value.string).toArray t fr)
def hK.lt {c b:List PS}{a:Py}(h:hK c b a):6<a.heap.size:=by
 obtain⟨f,e,d⟩:=h.hw;exact(ih.1 d).1
def hK.fQ {c b:List PS}{w w':Py}(h:hK c b w)(a:PG w w'):hK c b w':=by
 obtain⟨g,f,e⟩:=h.hw;obtain⟨i,j,d⟩:=h.hg;have l:=(ih.1 e).1;have k:=(ih.1 d).1;exact⟨h.lw,h.lg,h.zg,⟨g,f,by rw[a.block 6 Pv];exact e⟩,⟨i,j,by rw[a.block 2 Pv];exact d⟩⟩
section
variable (i g:List PS)(b:PS)(a:Nat)(d e:Int)(f:PS)(c:Nat)(w:Py)(q:b.size<=3000)(p:a<b.size)(u:hK i g w)
include i g b a d e f c w q p u
def Nt (k:mn (b[a].toNat:Int)=true)(T:Vy i b a=.tok d f e c) :
  PN 68 #[PI b,Ph (a:Int)] w (Vb a (.tok d f e c) w):=by
 have C{G}(h:G:=by
 have o:=r.fQ j;obtain⟨D,s,n⟩:=o.hw;have m:=CT i b a N q p o.lw D s n;rw[l.out] at m;refine cm m ?_;clear n;rintro F E ⟨rfl,B⟩;have A:=j.trans (B.mono j.size);exact E1):=Pq h;exact Gw
def NY (k:mn (b[a].toNat:Int)=false)(aQ:RJ (b[a].toNat:Int)=true)(T:rdNum b a=.tok d f e c) :
  PN 68 #[PI b,Ph (a:Int)] w (Vb a (.tok d f e c) w):=by
 have o{G}(h:G:=by
 have s:=J1 b a n q p C.out;rw[l.out] at s;refine cm s ?_;exact xu):=Pq h;exact pT
def S2 (k:mn (b[a].toNat:Int)=false)(aQ:RJ (b[a].toNat:Int)=false)(B:(((b[a].toNat:Nat):Int)==39)=true)(T:rdStr b a=.tok d f e c) :
  PN 68 #[PI b,Ph (a:Int)] w (Vb a (.tok d f e c) w):=by
 have o{G}(h:G:=by
 have s:=Aq b a n q p;rw[l.out] at s;refine cm s ?_;exact xu):=Pq h;exact pT
def VM (k:mn (b[a].toNat:Int)=false)(aQ:RJ (b[a].toNat:Int)=false)(U:(((b[a].toNat:Nat):Int)==39)=false)(T:WT g b a=.tok d f e c) :
  PN 68 #[PI b,Ph (a:Int)] w (Vb a (.tok d f e c) w):=by
 have o{G}(h:G:=by
 have s:=r.fQ m;obtain⟨H,F,E⟩:=s.hg;have B:=As g b a n q p s.lg s.zg H F E;rw[l.out] at B;refine cm B ?_;clear E;exact xu):=Pq h;exact pT
end
section
variable (i g:List PS)(b:PS)(a:Nat)(c:Int)(d:Nat)(w:Py)(f:b.size<=3000)(e:a<b.size)(u:hK i g w)
include i g b a c d w f e u
def aeS (k:mn (b[a].toNat:Int)=true)(T:Vy i b a=.ga c d) :
  PN 68 #[PI b,Ph (a:Int)] w (Vb a (.ga c d) w):=by
 have C{G}(h:G:=by
 have o:=r.fQ j;obtain⟨E,D,n⟩:=o.hw;have m:=CT i b a N f e o.lw E D n;rw[l.out] at m;refine cm m ?_;clear n;rintro L F ⟨A,rfl,s,p,q⟩;have B:=j.trans (q.mono j.size);have H:=gr j.size p;exact DY):=Pq h;exact Gw
def ag0 (k:mn (b[a].toNat:Int)=false)(aQ:RJ (b[a].toNat:Int)=true)(T:rdNum b a=.ga c d) :
  PN 68 #[PI b,Ph (a:Int)] w (Vb a (.ga c d) w):=by
 have o{G}(h:G:=by
 have q:=J1 b a n f e C.out;rw[l.out] at q;refine cm q ?_;exact yG):=Pq h;exact pT
def NJ (k:mn (b[a].toNat:Int)=false)(aQ:RJ (b[a].toNat:Int)=false)(E:(((b[a].toNat:Nat):Int)==39)=true)(T:rdStr b a=.ga c d) :
  PN 68 #[PI b,Ph (a:Int)] w (Vb a (.ga c d) w):=by
 have o{G}(h:G:=by
 have q:=Aq b a n f e;rw[l.out] at q;refine cm q ?_;exact yG):=Pq h;exact pT
def aeT (k:mn (b[a].toNat:Int)=false)(aQ:RJ (b[a].toNat:Int)=false)(au:(((b[a].toNat:Nat):Int)==39)=false)(T:WT g b a=.ga c d) :
  PN 68 #[PI b,Ph (a:Int)] w (Vb a (.ga c d) w):=by
 have o{G}(h:G:=by
 have q:=r.fQ m;obtain⟨U,S,F⟩:=q.hg;have E:=As g b a n f e q.lg q.zg U S F;rw[l.out] at E;refine cm E ?_;clear F;exact yG):=Pq h;exact pT
end
def EJ (e d:List PS)(b:PS)(a:Nat)(f:Py)(i:b.size<=3000)(g:a<b.size)(j:hK e d f) :
  PN 68 #[PI b,Ph (a:Int)] f (Vb a (Xo e d b a) f):=by
 have v:=s0 b a g;have u:=YQ b[a] 39;unfold Xo;rw[v]
 cases k:mn (b[a].toNat:Int)
 ·rw[fT Qh]
  cases r:RJ (b[a].toNat:Int)
  ·rw[fT Qh]
   by_cases t:b[a]=39
   ·rw[fY t];have s:(((b[a].toNat:Nat):Int)==39)=true:=by rw[t];rfl
    cases c:rdStr b a with
    |tok n q o l=>exact S2 e d b a n o q l f i g j k r s c
    |ga m p=>exact NJ e d b a m p f i g j k r s c
   ·rw[fT t];have s:(((b[a].toNat:Nat):Int)==39)=false:=by rw[show (39:Int)=(((39:UInt8).toNat:Nat):Int) from rfl,u];simp[t]
    cases c:WT d b a with
    |tok n q o l=>exact VM e d b a n o q l f i g j k r s c
    |ga m p=>exact aeT e d b a m p f i g j k r s c
  ·rw[fY rfl]
   cases c:rdNum b a with
   |tok n q o l=>exact NY e d b a n o q l f i g j k r c
   |ga m p=>exact ag0 e d b a m p f i g j k r c
 ·rw[fY rfl]
  cases c:Vy e b a with
  |tok n q o l=>exact Nt e d b a n o q l f i g j k c
  |ga m p=>exact aeS e d b a m p f i g j k c
structure Tk where
 kd:Int
 tx:PS
 n:Int
 pl:Nat
inductive TR where
 |ok (l:List Tk)
 |ga (er:Int) (p:Nat)
def Vw (f d:List PS)(a:PS)(b:Nat)(e:List Tk):TR:=
 if h:b<a.size then
  match Xo f d a b with
  |.tok i l j c=>if m:b<c then Vw f d a (Qk TP a c) (e++[⟨i,l,j,b⟩]) else .ga 0 0
  |.ga g k=>.ga g k
 else .ok (e++[⟨6,⟨#[]⟩,0,a.size⟩])
termination_by a.size - b
decreasing_by
 have:=Vx TP a c;omega
section
variable (d c:List PS)(a:PS)(b:Nat)(e:List Tk)
include d c a b e
def Zy (h:¬ b<a.size):Vw d c a b e=.ok (e++[⟨6,⟨#[]⟩,0,a.size⟩]):=by rw[Vw,dif_neg h]
def wJ (f:Int)(g:Nat)(h:b<a.size)(i:Xo d c a b=.ga f g):Vw d c a b e=.ga f g:=by rw[Vw,dif_pos h,i]
def TN (g i:Int)(j:PS)(f:Nat)(h:b<a.size)(k:Xo d c a b=.tok g j i f)(l:b<f):Vw d c a b e=Vw d c a (Qk TP a f) (e++[⟨g,j,i,b⟩]):=by
 conv=>lhs;rw[Vw]
 rw[dif_pos h,k];simp only;rw[dif_pos l]
end
def US (b:PS):∀g a said e d,b.size - a=g->XL b a said=.ok e d->a<d/\d<=b.size/\e.length<=said.length+(b.size - a):=by
 intro g
 induction g using Nat.strongRecOn with
 |ind g j=>
  intro a said e d o h
  by_cases c:a<b.size
  ·by_cases k:bt b a=39
   ·rw[GY b a said c k] at h;cases h;exact⟨by omega,by omega,by omega⟩
   ·by_cases l:bt b a=10
    ·rw[Ee b a said c l] at h;cases h
    ·by_cases f:bt b a=92
     ·by_cases m:a+1<b.size
      ·
       cases i:lR (bt b (a+1)) with
       |none=>rw[YR b a said c f (λ_=>i)] at h;cases h
       |some n=>
        rw[Iq b a said n c f m i] at h;have:=j (b.size - (a+2)) Pv (a+2) _ e d rfl h;rw[gg,hZ] at this;omega
      ·rw[YR b a said c f (λi=>absurd i m)] at h;cases h
     ·rw[Bo b a said c k l f] at h;have:=j (b.size - (a+1)) Pv (a+1) _ e d rfl h;rw[gg,hZ] at this;omega
  ·rw[GU b a said c] at h;cases h
def Xa (n f:List PS)(a:PS)(b:Nat)(q r:Int)(s:PS)(g:Nat)(e:b<a.size)(p:∀c ∈ f,1<=c.size)(h:Xo n f a b=.tok q s r g):b<g/\g<=a.size:=by
 have o:=s0 a b e;unfold Xo at h;rw[o] at h
 split at h
 ·rename_i k
  have d:XH (a[b].toNat:Int)=true:=by unfold XH;rw[k];rfl
  have i:=Zq XH a b e d;have j:=Vx XH a (b+1);have m:=UA XH a b Pv;unfold Vy at h
  split at h
  ·
   cases h;omega
  ·split at h
   ·
    cases h
   ·
    cases h;omega
 ·split at h
  ·rename_i d
   have i:=Zq RJ a b e d;have j:=Vx RJ a (b+1);have m:=UA RJ a b Pv;unfold rdNum at h
   split at h
   ·
    cases h
   ·split at h
    ·
     cases h
    ·split at h
     ·
      cases h
     ·
      cases h;omega
  ·split at h
   ·unfold rdStr at h
    cases d:XL a (b+1) [] with
    |ok said k=>
     rw[d] at h;simp only at h;have l:=US a _ (b+1) [] said k rfl d
     split at h
     ·
      cases h
     ·
      cases h;omega
    |ga k=>rw[d] at h;cases h
   ·unfold WT at h
    cases d:f.find? (λc=>n9 (a.extract b a.size) c) with
    |none=>rw[d] at h;cases h
    |some c=>
     rw[d] at h;obtain⟨_,_,_,u⟩:=Rd.tok.inj h;have k:=iz d;have l:=mv d;have i:=p c k;simp only[n9,lf,nc] at l;have t:=extract_size a b a.size Pv Qq;omega
def X0 (a:Tk):List PO:=[Ph a.kd,PI a.tx,Ph a.n,Ph (a.pl:Int)]
def SN (a:List Tk):List PO:=a.flatMap X0
def BB (a:List Tk)(b:Tk):SN (a++[b])=SN a++X0 b:=by simp[SN]
def tw (g:TR)(b:Py)(d:Ending)(a:Py):Prop:=
 match g with
 |.ok c=>∃e,d=PY (.tuple #[e,.nilIface])/\a.ownsRow b.heap.size 144 4 e c.length (SN c)/\PG b a
 |.ga e f=>∃c,d=PY (.tuple #[.slice none 0 0,.iface 150 (PZ c 0)])/\a.heap[c]?=some (Qb #[Ph e,Ph (f:Int)] 152)/\b.heap.size<=c/\PG b a
def O0:(prog.info? 144).map (λa=>(a.zero,a.size,a.bytes))=some (some Z9,4,40):=by kernel_rfl
def alj {wr b:Py}{a:Nat}{g:PO}{f:Nat}{i:List PO}(k:PG wr b)(h:wr.ownsRow a 144 4 g f i):b.ownsRow a 144 4 g f i:=by
 obtain⟨e,p|⟨c,n,o,m,j,d,l⟩⟩:=h
 ·exact⟨e,fU p⟩
 ·exact⟨e,f4 ⟨c,n,o,m,j,by rw[k.block c (ih.1 d).1];exact d,l⟩⟩
def KL {f:Py}{b a:Nat}{e:PO}{d:Nat}{g:List PO}(p:a<=b)(h:f.ownsRow b 144 4 e d g):f.ownsRow a 144 4 e d g:=by
 obtain⟨c,n|⟨m,k,l,j,o,i⟩⟩:=h
 ·exact⟨c,fU n⟩
 ·exact⟨c,f4 ⟨m,k,l,j,by omega,i⟩⟩
def DB {a:Nat}{d b f:Py}{e:PO}{l:Nat}{m:List PO}(g:Below a d b)(i:a<=b.heap.size)(k:b.ownsRow a 144 4 e l m)(j:b.grownBy f e.ownBlock) :
  Below a d f:=g.grown j i (λr c=>by
  obtain⟨_,⟨rfl,_⟩|⟨q,o,p,rfl,n,_⟩⟩:=k
  ·simp[Value.ownBlock] at c
  ·simp[Value.ownBlock] at c;omega)
def aiY (a:PS)(b:Py)(e:3000<a.size) :
  PN 33 #[PI a] b λd c=>d=PY (.tuple #[RF,.iface 34 (Ph 4)])/\c=b:=by
 go_enter func33,ntmps33
 go_wp2
 go_ret2
 exact⟨rfl,rfl⟩
def MY (f e:List PS)(a:PS)(af:Py)(ay:a.size<=3000)(a6:hK f e af)(aO:∀b ∈ e,1<=b.size) :
  PN 33 #[PI a] af (tw (Vw f e a (Qk TP a 0) []) af):=by
 obtain⟨aM,aE,aK,aH,aI⟩:=g2 O0;obtain⟨p,I⟩:∃p,Vw f e a (Qk TP a 0) []=p:=⟨_,rfl⟩;have aZ:=Y I;rw[I];have aW:=Y aO;clear I aO;go_enter func33,ntmps33;go_wp2_with fail;refine(HN _ _).mono ?_;rintro be a8 ⟨x,rfl,aX,R⟩;have aJ:=aX.congr ava;go_wp2_with fail;refine(Zr a 0 x TP a8 (by unfold maxLen;omega) (ge _) aJ).mono ?_
 rintro bh j ⟨rfl,rfl⟩;have aQ:=UA TP a 0 (ge _);obtain⟨B,M⟩:∃B,Qk TP a 0=B:=⟨_,rfl⟩;rw[M] at aQ ⊢;have aY:Hid (Vw f e a B []=p):=by show _=_;rw[<-M];exact Pj aZ
 clear M;go_wp2_with fail
 go_loopw [5,6,7,8,9] (λd X _ _ _ wr=>∃(b:Nat)(c:List Tk),b<=a.size/\c.length<=b/\X=Ph b/\Vw f e a b c=p/\wr.ownsRow j.heap.size 144 4 d c.length (SN c)/\PG j wr/\j.heap.size<=wr.heap.size) (λ_ X _ _ _ _=>a.size - (intOf X).toNat)
 case atStart=>exact⟨B,[],aQ,by simp,rfl,aY.out,iR _ _ _ _,RV,Qq⟩
 case round=>
  obtain⟨b,c,d,bb,rfl,aD,T,C,v⟩:=hrel;have N:=Y aD;clear aD;have ap:=(a6.fQ R).fQ C
  by_cases l:b<a.size
  ·
   cases k:Xo f e a b with
   |tok n q o m=>
    have r:=Xa f e a b n o q m l aW.out k;have a7:=Y ((TN f e a b c n o q m l k r.1).symm.trans N.out);have P:=Y k;obtain⟨bf,ax⟩:=r;clear k;go_wp2_with fail;have w:=EJ f e a b wr ay l ap;rw[P.out] at w;refine cm w ?_;rintro a1 D ⟨rfl,u⟩;have au:=C.trans (u.mono v);have O:=au;have ak:=alj u T;have U:j.heap.size<=D.heap.size:=au.size
    go_wp2_with (at_builtin;refine lQ _ rfl _ _ 88 rfl j.heap.size 144 aM Z9 4 40 underlying88 aE aK aH aI rfl PK _ _ _ rfl ((ak.alloc _).alloc _) (Pn (D.heap.size+1) 0) 1 1 [Ph n,PI q,Ph o,Ph (b:Int)] rfl rfl ?c1 ?c2 ?c3 ?c4 ?c5 ?_)
    case c1=>
     exact Hn
    case c2=>
     intro aR s;simp only[gE,jf,js] at s
     rcases s with rfl|rfl|rfl|rfl <;> rfl
    case c3=>unfold maxLen;omega
    case c4=>omega
    case c5=>simp;omega
    intro A E hown' S _;have H:=DB ((O.alloc U _).alloc SC _) SC ((ak.alloc _).alloc _) S;have z:=H;have F:E.ownsRow j.heap.size 144 4 A (c++[Tk.mk n q o b]).length (SN (c++[Tk.mk n q o b])):=by
     refine mq ?_;rw[BB,gg];exact hown'
    have aT:=Vx TP a m;have ah:=UA TP a m ax;obtain⟨ad,ae⟩:∃ad,Qk TP a m=ad:=⟨_,rfl⟩;rw[ae] at aT ah;have al:=Y ae;clear ae;go_wp2_with fail;have aL:=Zr a m x TP E (by unfold maxLen;omega) ax (aJ.fQ z)
    rw[al.out] at aL;refine aL.mono ?_;rintro bi ba ⟨rfl,rfl⟩;go_wp2
    go_roundw
    case rel=>exact⟨ad,c++[Tk.mk n q o b],ah,by simp;omega,rfl,by have:=Pj a7;rw[al.out] at this;exact this,F,z,z.size⟩
    case measure=>simp[intOf];omega
   |ga n q=>
    have L:p=.ga n q:=by rw[<-N.out,wJ f e a b c n q l k]
    have P:=Y k;clear k;subst L;go_wp2_with fail;have w:=EJ f e a b wr ay l ap;rw[P.out] at w;refine cm w ?_;rintro a1 D ⟨m,rfl,r,ad,u⟩;have o:=Y r;have O:=C.trans (u.mono v);have U:=gr v u.size;have ae:=gr v ad;clear r;go_wp2
    go_ret2
    have g:=R;refine⟨m,rfl,?_,gr g.size ae,(g.trans (O.mono g.size)).alloc (gr g.size U) _⟩;rw[gy D _ m (ih.1 o.out).1];exact Pj o
  ·have L:p=.ok (c++[Tk.mk 6 ⟨#[]⟩ 0 a.size]):=by rw[<-N.out,Zy f e a b c l]
   subst L
   go_wp2_with (at_builtin;refine lQ _ rfl _ _ 88 rfl j.heap.size 144 aM Z9 4 40 underlying88 aE aK aH aI rfl PK _ _ _ rfl (T.alloc _) (Pn wr.heap.size 0) 1 1 [Ph 6,QB,Ph 0,Ph (a.size:Int)] rfl rfl ?c1 ?c2 ?c3 ?c4 ?c5 ?_)
   case c1=>
    exact Hn
   case c2=>
    intro aR s;simp only[gE,jf,js] at s
    rcases s with rfl|rfl|rfl|rfl <;> rfl
   case c3=>unfold maxLen;omega
   case c4=>omega
   case c5=>simp;omega
   intro A E hown' S _;have H:=DB (C.alloc v _) SC (T.alloc _) S;have z:=H;have F:E.ownsRow j.heap.size 144 4 A (c++[Tk.mk 6 ⟨#[]⟩ 0 a.size]).length (SN (c++[Tk.mk 6 ⟨#[]⟩ 0 a.size])):=by
    refine mq ?_;rw[BB,gg];exact hown'
   go_wp2
   go_ret2
   have g:=R;exact⟨A,rfl,KL g.size F,g.trans (z.mono g.size)⟩
inductive Tr where
 |mk (kd:Int) (tx:PS) (n:Int) (fS:List Tr)
def Tr.kd:Tr->Int |.mk a _ _ _=>a
def Tr.tx:Tr->PS |.mk _ a _ _=>a
def Tr.n:Tr->Int |.mk _ _ a _=>a
def Tr.fS:Tr->List Tr |.mk _ _ _ a=>a
inductive PR (α:Type) where
 |ok (x:α) (i:Nat)
 |ga (er:Int) (p:Nat)
 |out
def PR.bind {α β:Type}:PR α->(α->Nat->PR β)->PR β
 |.ok x b,a=>a x b
 |.ga a b,_=>.ga a b
 |.out,_=>.out
abbrev PE:PS:=⟨#[]⟩
abbrev w9:PS:=⟨#[118,97,114]⟩
abbrev xn:PS:=⟨#[108,101,116]⟩
abbrev ym:PS:=⟨#[99,111,110,115,116]⟩
abbrev QY:PS:=⟨#[102,117,110,99,116,105,111,110]⟩
abbrev yv:PS:=⟨#[105,102]⟩
abbrev pB:PS:=⟨#[101,108,115,101]⟩
abbrev yc:PS:=⟨#[119,104,105,108,101]⟩
abbrev xL:PS:=⟨#[119,105,116,104]⟩
abbrev qI:PS:=⟨#[114,101,116,117,114,110]⟩
abbrev ze:PS:=⟨#[116,104,114,111,119]⟩
abbrev mM:PS:=⟨#[116,114,121]⟩
abbrev V4:PS:=⟨#[99,97,116,99,104]⟩
abbrev Tq:PS:=⟨#[102,105,110,97,108,108,121]⟩
abbrev Md:PS:=⟨#[116,121,112,101,111,102]⟩
abbrev atA:PS:=⟨#[100,101,108,101,116,101]⟩
abbrev o4:PS:=⟨#[116,114,117,101]⟩
abbrev pa:PS:=⟨#[102,97,108,115,101]⟩
abbrev r9:PS:=⟨#[110,117,108,108]⟩
abbrev axy:PS:=⟨#[117,110,100,101,102,105,110,101,100]⟩
abbrev TT:PS:=⟨#[40]⟩
abbrev U1:PS:=⟨#[41]⟩
abbrev Uh:PS:=⟨#[123]⟩
abbrev Wn:PS:=⟨#[125]⟩
abbrev SH:PS:=⟨#[59]⟩
abbrev rf:PS:=⟨#[44]⟩
abbrev ss:PS:=⟨#[58]⟩
abbrev sP:PS:=⟨#[46]⟩
abbrev kG:PS:=⟨#[61]⟩
abbrev tOr:PS:=⟨#[124,124]⟩
abbrev aI6:PS:=⟨#[38,38]⟩
abbrev NP:PS:=⟨#[61,61,61]⟩
abbrev aB7:PS:=⟨#[60]⟩
abbrev Lq:PS:=⟨#[43]⟩
abbrev aI8:PS:=⟨#[45]⟩
abbrev T8:PS:=⟨#[42]⟩
abbrev KE:PS:=⟨#[33]⟩
abbrev Wj:PS:=⟨#[115,116,114,105,99,116]⟩
abbrev pZ:PS:=⟨#[117,115,101,32,115,116,114,105,99,116]⟩
structure Sg where
 tx:PS
 kd:Int
 parts:Int
 str:Int
def jJ:List Sg:=[⟨tOr,25,2,2⟩,⟨aI6,26,2,3⟩,⟨NP,27,2,4⟩,⟨aB7,28,2,5⟩,⟨Lq,29,2,6⟩,⟨aI8,30,2,6⟩,⟨T8,31,2,7⟩,⟨KE,32,1,8⟩,⟨Md,33,1,8⟩,⟨atA,34,1,8⟩,⟨o4,19,0,10⟩,⟨pa,20,0,10⟩,⟨r9,21,0,10⟩,⟨axy,22,0,10⟩]
def hG:List (PS×Int):=[(w9,2),(xn,3),(ym,4),(yv,7),(yc,8),(xL,9),(qI,10),(ze,11)]
def Vh:List (PS×Nat):=[(w9,0),(xn,0),(ym,0),(QY,1),(Uh,2),(SH,3),(yv,4),(yc,5),(xL,5),(qI,6),(ze,6),(mM,7)]
def Ur:List (PS×Nat):=[(TT,0),(Uh,1),(QY,2)]
def Sr {β:Type}(b:List (PS×β))(c:PS):Option β:=(b.find? (λa=>decide (c=a.1))).map (·.2)
def lF (b:PS):Option Sg:=jJ.find? (λa=>decide (b=a.tx))
def iG (b:Int)(c:PS):Option Sg:=(lF c).filter (λa=>a.parts==b)
def RN (a:PS):Int:=(Sr hG a).getD 0
section
variable (a:List Tk)
def Qn (b:Nat):Tk:=a.getD b ⟨6,PE,0,0⟩
def fx (b:Nat):PS:=if (Qn a b).kd==2||(Qn a b).kd==5 then (Qn a b).tx else PE
def YZ {α:Type}(b:Int)(c:Nat):PR α:=.ga b (Qn a c).pl
def Qx (c:PS)(b:Nat):PR Unit:=if fx a b=c then .ok () (b+1) else YZ a 3 b
def gK (b:Nat):PR PS:=if (Qn a b).kd=1 then .ok (Qn a b).tx (b+1) else YZ a 3 b
def QJ (d:Nat->Nat->PR Tr)(b c:Nat):PR Tr:=if b=30 then YZ a 4 c else d (b+1) c
def gX (b:Nat):Bool:=(Qn a b).kd==1
def hY (b:Nat):Bool:=(Qn a b).kd==1||(Qn a b).kd==3||(Qn a b).kd==4||(Sr Ur (fx a b)).isSome||((lF (fx a b)).filter (λc=>decide (c.parts<2))).isSome
structure Ut where
 fuel:Nat
 st:Nat->Nat->PR Tr
 vl:Nat->Nat->PR Tr
 pr:Int->Nat->Nat->PR Tr
 sg:Nat->Nat->PR Tr
def aB8:Ut:=⟨0,λ_ _=>.out,λ_ _=>.out,λ_ _ _=>.out,λ_ _=>.out⟩
def UD (shut:PS)(begins:Nat->Bool)(part:Nat->PR Tr):Nat->List Tr->Nat->PR (List Tr)
 |0,_,_=>.out
 |f+1,c,d=>if c.length=8/\begins d=true then YZ a 4 d else
  (part d).bind λe b=>if fx a b=shut then .ok (c++[e]) (b+1) else
   (Qx a rf b).bind λ_ i2=>UD shut begins part f (c++[e]) i2
def XR (e shut:PS)(begins:Nat->Bool)(part:Nat->PR Tr)(d c:Nat):PR (List Tr):=
 (Qx a e c).bind λ_ b=>if fx a b=shut then .ok [] (b+1) else UD a shut begins part d [] b
def VT:Tr->Tr
 |.mk i n k (.mk c j f (.mk b d g m::e)::l)=>.mk i (if c=15/\b=18/\d=pZ then Wj else n) k (.mk c j f (.mk b d g m::e)::l)
 |b=>b
def RZ (c:Ut)(e:Nat):Nat->List Tr->Nat->PR (List Tr)
 |0,_,_=>.out
 |g+1,d,b=>if fx a b=Wn then .ok d (b+1) else
  (QJ a c.st e b).bind λi f=>RZ c e g (d++[i]) f
def Rk (b:Ut)(e f:Nat):PR Tr:=
 (Qx a Uh f).bind λ_ c=>(RZ a b e b.fuel [] c).bind λd i2=>.ok (.mk 6 PE 0 d) i2
def V5 (c:Nat):PR Tr:=(gK a c).bind λd b=>.ok (.mk 23 d 0 []) b
def Uu (b:Ut)(e:Nat):PR Tr:=(XR a TT U1 (gX a) (V5 a) b.fuel e).bind λd c=>.ok (.mk 40 PE 0 d) c
def oN (b:Ut)(c d:Nat):PR Tr:=QJ a b.vl c d
def Yj (b:Ut)(d e:Nat):PR Tr:=
 (gK a e).bind λg c=>(Qx a ss c).bind λ_ i2=>(QJ a b.vl d i2).bind λi f=>.ok (.mk 39 g 0 [i]) f
def VA (b:Ut)(d e:Nat):PR Tr:=
 (Qx a TT e).bind λ_ c=>(QJ a b.vl d c).bind λg i2=>(Qx a U1 i2).bind λ_ f=>.ok g f
def Xb (b:Ut)(e f:Nat):PR Tr:=
 (XR a Uh Wn (gX a) (Yj a b e) b.fuel f).bind λd c=>.ok (.mk 38 PE 0 d) c
def TU (b:Ut)(g:Int)(j:PS)(e f:Nat):PR Tr:=
 (Uu a b f).bind λi c=>(Rk a b e c).bind λd i2=>.ok (.mk g j 0 [i,VT d]) i2
def Xc (c:Ut)(d e:Nat):PR Tr:=
 (Qx a QY e).bind λ_ b=>if gX a b=true then (gK a b).bind λf i2=>TU a c 37 f d i2 else TU a c 37 PE d b
def n3 (b:Ut)(d e:Nat):PR Tr:=
 (Qx a QY e).bind λ_ c=>(gK a c).bind λf i2=>TU a b 5 f d i2
def VD (c:Ut)(d b:Nat):PR Tr:=
 match Sr Ur (fx a b) with
 |some 0=>VA a c d b
 |some 1=>Xb a c d b
 |some _=>Xc a c d b
 |none=>
  match iG 0 (fx a b) with
  |some e=>.ok (.mk e.kd PE 0 []) (b+1)
  |none=>
   if (Qn a b).kd=1 then .ok (.mk 23 (Qn a b).tx 0 []) (b+1)
   else if (Qn a b).kd=4 then .ok (.mk 18 (Qn a b).tx 0 []) (b+1)
   else if (Qn a b).kd=3 then .ok (.mk 17 PE (Qn a b).n []) (b+1)
   else YZ a 3 b
def TV (c:Ut)(e:Nat):Nat->Tr->Nat->PR Tr
 |0,_,_=>.out
 |g+1,f,b=>
  if fx a b=sP then (gK a (b+1)).bind λj d=>TV c e g (.mk 36 j 0 [f]) d
  else if fx a b=TT then (XR a TT U1 (hY a) (oN a c e) c.fuel b).bind λi d=>TV c e g (.mk 35 PE 0 (f::i)) d
  else .ok f b
def VE (b:Ut)(c e:Nat):PR Tr:=(VD a b c e).bind λf d=>TV a b c b.fuel f d
def UQ (c:Ut)(d b:Nat):PR Tr:=
 match iG 1 (fx a b) with
 |some f=>(QJ a c.sg d (b+1)).bind λg e=>.ok (.mk f.kd PE 0 [g]) e
 |none=>VE a c d b
def U2 (e:Ut)(least:Int)(f:Nat):Nat->Tr->Nat->PR Tr
 |0,_,_=>.out
 |i+1,d,b=>
  match iG 2 (fx a b) with
  |none=>.ok d b
  |some c=>if c.str<least then .ok d b else (e.pr (c.str+1) f (b+1)).bind λj g=>U2 e least f i (.mk c.kd PE 0 [d,j]) g
def Yk (b:Ut)(least:Int)(c e:Nat):PR Tr:=(b.sg c e).bind λf d=>U2 a b least c b.fuel f d
def V6 (d:Ut)(e f:Nat):PR Tr:=
 (d.pr 2 e f).bind λb c=>if fx a c=kG then
   (if b.kd=23\/b.kd=36 then (QJ a d.vl e (c+1)).bind λg i2=>.ok (.mk 24 PE 0 [b,g]) i2 else YZ a 1 f)
  else .ok b c
def oA (e:Ut)(f c:Nat):PR Tr:=
 (gK a (c+1)).bind λd b=>
  if RN (Qn a c).tx=4/\¬ fx a b=kG then YZ a 3 b
  else if fx a b=kG then (QJ a e.vl f (b+1)).bind λi i2=>(Qx a SH i2).bind λ_ g=>.ok (.mk (RN (Qn a c).tx) d 0 [i]) g
  else (Qx a SH b).bind λ_ i2=>.ok (.mk (RN (Qn a c).tx) d 0 []) i2
def UR (b:Ut)(c d:Nat):PR Tr:=
 (VA a b c (d+1)).bind λg e=>(QJ a b.st c e).bind λf i2=>.ok (.mk (RN (Qn a d).tx) PE 0 [g,f]) i2
def Xd (b:Ut)(c d:Nat):PR Tr:=
 (VA a b c (d+1)).bind λf g=>(QJ a b.st c g).bind λe i2=>
  if fx a i2=pB then (QJ a b.st c (i2+1)).bind λs2 i=>.ok (.mk (RN (Qn a d).tx) PE 0 [f,e,s2]) i
  else .ok (.mk (RN (Qn a d).tx) PE 0 [f,e]) i2
def XT (c:Ut)(e b:Nat):PR Tr:=
 if RN (Qn a b).tx=11\/¬ fx a (b+1)=SH then (QJ a c.vl e (b+1)).bind λf d=>(Qx a SH d).bind λ_ i2=>.ok (.mk (RN (Qn a b).tx) PE 0 [f]) i2
 else (Qx a SH (b+1)).bind λ_ i2=>.ok (.mk (RN (Qn a b).tx) PE 0 []) i2
def qd (c:Ut)(f b:Nat):PR (List Tr):=
 if fx a b=V4 then (Qx a TT (b+1)).bind λ_ d=>(gK a d).bind λj i2=>(Qx a U1 i2).bind λ_ g=>(Rk a c f g).bind λe i=>.ok [.mk 13 j 0 [e]] i
 else .ok [] b
def Xt (c:Ut)(f b:Nat):PR (List Tr):=
 if fx a b=Tq then (Rk a c f (b+1)).bind λe d=>.ok [.mk 14 PE 0 [e]] d
 else .ok [] b
def Wx (b:Ut)(c j:Nat):PR Tr:=
 (Qx a mM j).bind λ_ k=>(Rk a b c k).bind λi g=>(qd a b c g).bind λd i2=>(Xt a b c i2).bind λe f=>
  if d.length+e.length=0 then YZ a 3 f else .ok (.mk 12 PE 0 (i::(d++e))) f
def nB (b:Ut)(d e:Nat):PR Tr:=(QJ a b.vl d e).bind λf c=>(Qx a SH c).bind λ_ i2=>.ok (.mk 15 PE 0 [f]) i2
def nN (b:Ut)(c:Nat):Nat->Nat->PR Tr
 |0=>oA a b c
 |1=>n3 a b c
 |2=>Rk a b c
 |3=>λe=>(Qx a SH e).bind λ_ d=>.ok (.mk 16 PE 0 []) d
 |4=>Xd a b c
 |5=>UR a b c
 |6=>XT a b c
 |_=>Wx a b c
def Si (c:Ut)(d b:Nat):PR Tr:=
 match Sr Vh (fx a b) with
 |some e=>nN a c d e b
 |none=>nB a c d b
def ig:Nat->Ut
 |0=>aB8
 |b+1=>⟨b,Si a (ig b),V6 a (ig b),Yk a (ig b),UQ a (ig b)⟩
def SQ (c:Ut):Nat->List Tr->Nat->PR (List Tr)
 |0,_,_=>.out
 |f+1,d,b=>if (Qn a b).kd=6 then .ok d b else
  (QJ a c.st 0 b).bind λg e=>SQ c f (d++[g]) e
def Wy (b:Ut):PR Tr:=(SQ a b b.fuel [] 0).bind λc d=>.ok (VT (.mk 1 PE 0 c)) d
end
mutual
def Tr.count:Tr->Nat
 |.mk _ _ _ a=>1+Tr.f5 a
def Tr.f5:List Tr->Nat
 |[]=>0
 |b::a=>b.count+Tr.f5 a
end
def Nx {α:Type}(e:Prop)(c d:Nat)(b:PR α):Prop:=(e->b≠.out)/\∀x a,b=.ok x a->d<=a/\a<c
section
variable {α:Type}{a:Prop}
include α a
def Nx.ok {c d b:Nat}{x:α}(f:d<=b)(e:b<c):Nx a c d (.ok x b):=
 ⟨λ_ h=>by (cases h),λ_ _ h=>by cases h;exact⟨f,e⟩⟩
def Nx.ga {b c:Nat}{d:Int}{e:Nat}:Nx (α:=α) a b c (.ga d e):=
 ⟨λ_ h=>by (cases h),λ_ _ h=>by (cases h)⟩
def Nx.YZ {b c:Nat}{f:List Tk}{d:Int}{e:Nat}:Nx (α:=α) a b c (YZ f d e):=Nx.ga
end
def Nx.bind {α β:Type}{c:Prop}{b e f:Nat}{d:PR α}{g:α->Nat->PR β}(h:Nx c b e d)(i:∀x a,e<=a->a<b->Nx c b f (g x a)):Nx c b f (d.bind g):=by
 cases d with
 |ok x a=>exact i x a (h.2 x a rfl).1 (h.2 x a rfl).2
 |ga j k=>exact Nx.ga
 |out=>exact⟨λj=>absurd rfl (h.1 j),λ_ _ h=>by cases h⟩
def Nx.imp {α:Type}{c q':Prop}{a b:Nat}{d:PR α}(h:Nx c a b d)(e:q'->c):Nx q' a b d:=⟨λx=>h.1 (e x),h.2⟩
def Nx.le {α:Type}{f:Prop}{a c b:Nat}{g:PR α}(h:Nx f a c g)(i:b<=c):Nx f a b g:=⟨h.1,λx e d=>⟨gr i (h.2 x e d).1,(h.2 x e d).2⟩⟩
def Ends (b:List Tk):Prop:=∀a,a<b.length->((Qn b a).kd=6↔a+1=b.length)
section
variable {a:List Tk}(c:Ends a)
include c
def Wp {b:Nat}(d:b<a.length)(h:(Qn a b).kd≠6):b+1<a.length:=by
 have:=mt (c b d).2 h;omega
def XU {b:Nat}{d:PS}(f:b<a.length)(h:fx a b=d)(e:d≠PE):b+1<a.length:=by
 refine Wp c f λg=>e ?_;rw[<-h,fx,g];rfl
def NT {β:Type}{d:List (PS×β)}{x:β}{b:Nat}(e:b<a.length)(h:Sr d (fx a b)=some x)(f:Sr d PE=none):b+1<a.length:=by
 refine XU c e rfl λg=>?_;rw[g,f] at h;cases h
def pH {d:Int}{x:Sg}{b:Nat}(e:b<a.length)(h:iG d (fx a b)=some x):b+1<a.length:=by
 refine XU c e rfl λf=>?_;rw[f] at h;have:iG d PE=none:=by
  have:lF PE=none:=by decide
  simp[iG,this]
 rw[this] at h;cases h
def Sv {g:Prop}{d:PS}{b:Nat}(f:b<a.length)(e:d≠PE):Nx g a.length (b+1) (Qx a d b):=by
 unfold Qx
 split
 ·exact Nx.ok Qq (XU c f ‹_› e)
 ·exact Nx.YZ
def WA {d:Prop}{b:Nat}(e:b<a.length):Nx d a.length (b+1) (gK a b):=by
 unfold gK
 split
 ·rename_i h
  exact Nx.ok Qq (Wp c e (by rw[h];decide))
 ·exact Nx.YZ
omit c in
theorem SS {f:Prop}{e:Nat->Nat->PR Tr}{b d:Nat}(h:Nx f a.length (d+1) (e (b+1) d)):Nx f a.length (d+1) (QJ a e b d):=by
 unfold QJ
 split
 ·exact Nx.YZ
 ·exact h
def ahC {i:Prop}{shut:PS}{begins:Nat->Bool}{part:Nat->PR Tr}{e:Nat}(k:shut≠PE)(l:∀b,e<=b->b<a.length->Nx i a.length (b+1) (part b)) :
  ∀d f b,e<=b->b<a.length->Nx (i/\a.length - b<d) a.length (b+1) (UD a shut begins part d f b):=by
 intro d
 induction d with
 |zero=>intro f b _ _;exact⟨λh=>absurd h.2 Pv,λ_ _ h=>by (cases h)⟩
 |succ d o=>
  intro f b p m;unfold UD
  split
  ·exact Nx.YZ
  ·refine Nx.bind ((l b p m).imp And.left) λt s r g=>?_
   split
   ·exact Nx.ok Pv (XU c g ‹_› k)
   ·refine Nx.bind (Sv c g PK) λ_ n q j=>?_;exact((o _ n Pv j).le Pv).imp λh=>⟨h.1,by omega⟩
def t6 {e:Prop}{j shut:PS}{begins:Nat->Bool}{part:Nat->PR Tr}{f d:Nat}(p:d<a.length)(k:j≠PE)(i:shut≠PE)(m:e->a.length - d<=f)(n:∀b,d<b->b<a.length->Nx e a.length (b+1) (part b)) :
  Nx e a.length (d+1) (XR a j shut begins part f d):=by
 unfold XR;refine Nx.bind (Sv c p k) λ_ b q g=>?_
 split
 ·exact Nx.ok Pv (XU c g ‹_› i)
 ·exact((ahC c i (e:=d+1) (λb o l=>n b o l) f [] b q g).le Pv).imp λh=>⟨h,by have:=m h;omega⟩
structure ka (l:List Tk)(k:Nat)(F:Ut):Prop where
 fuel:F.fuel=k - 1
 st:∀d i,i<l.length->Nx (8 * (l.length - i)+3<k) l.length (i+1) (F.st d i)
 vl:∀d i,i<l.length->Nx (8 * (l.length - i)+2<k) l.length (i+1) (F.vl d i)
 pr:∀b d i,i<l.length->Nx (8 * (l.length - i)+1<k) l.length (i+1) (F.pr b d i)
 sg:∀d i,i<l.length->Nx (8 * (l.length - i)<k) l.length (i+1) (F.sg d i)
variable {e:Nat}{d:Ut}(b:ka a e d)
include b
def afR {m:Prop}{k:Nat}(o:m->8 * (a.length - k)<=e+4):∀i g j f,k<f->f<a.length->Nx (m/\a.length - f<i) a.length (f+1) (RZ a d g i j f):=by
 intro i
 induction i with
 |zero=>intro g j f _ _;exact⟨λh=>absurd h.2 Pv,λ_ _ h=>by (cases h)⟩
 |succ i p=>
  intro g j f r l;unfold RZ
  split
  ·exact Nx.ok Pv (XU c l ‹_› PK)
  ·refine Nx.bind (SS ((b.st (g+1) f l).imp λh=>?_)) λt q s n=>((p g _ q Pv n).le Pv).imp λh=>⟨h.1,by omega⟩;have:=o h.1;omega
def Yl {k:Prop}{i f:Nat}(n:f<a.length)(g:k->8 * (a.length - f)<=e+4):Nx k a.length (f+1) (Rk a d i f):=by
 unfold Rk;refine Nx.bind (Sv c n PK) λ_ j r l=>?_;refine Nx.bind (((afR c b g d.fuel i [] j Pv l).le (b:=j) Pv).imp λh=>⟨h,?_⟩) λo q p m=>Nx.ok Pv m;have:=g h;rw[b.fuel];omega
omit b in
theorem KB {g:Prop}{f:Nat}(j:f<a.length):Nx g a.length (f+1) (V5 a f):=by
 unfold V5;exact Nx.bind (WA c j) λm l k i=>Nx.ok k i
def ajV {g:Prop}{f:Nat}(k:f<a.length)(j:g->8 * (a.length - f)<=e+4):Nx g a.length (f+1) (Uu a d f):=by
 unfold Uu;refine Nx.bind (t6 c k PK PK (λh=>?_) λm _ h=>KB c h) λn m l i=>Nx.ok l i;have:=j h;rw[b.fuel];omega
omit c in
theorem xQ {g:Prop}{k f:Nat}(j:f<a.length)(i:g->8 * (a.length - f)+2<e):Nx g a.length (f+1) (oN a d k f):=SS ((b.vl _ _ j).imp i)
section
variable {g:Prop}{k f:Nat}(j:f<a.length)(i:g->8 * (a.length - f)<=e+4)
include g k f j i
def EH:Nx g a.length (f+1) (Yj a d k f):=by
 unfold Yj;refine Nx.bind (WA c j) λu t s l=>?_;refine Nx.bind (Sv c l PK) λ_ p o m=>?_;exact Nx.bind (SS ((b.vl _ _ m).imp λh=>by have:=i h;omega)) λv r q n=>Nx.ok Pv n
def ws:Nx g a.length (f+1) (VA a d k f):=by
 unfold VA;refine Nx.bind (Sv c j PK) λ_ p o l=>?_;refine Nx.bind (SS ((b.vl _ _ l).imp λh=>by have:=i h;omega)) λu s q m=>?_
 exact Nx.bind (Sv c m PK) λ_ t r n=>Nx.ok Pv n
def ajW:Nx g a.length (f+1) (Xb a d k f):=by
 unfold Xb;refine Nx.bind (t6 c j PK PK (λh=>?_) λo l h=>EH c b h λn=>by have:=i n;omega) λp o l m=>Nx.ok l m
 have:=i h;rw[b.fuel];omega
end
def Zh {i:Prop}{n:Int}{o:PS}{m f:Nat}(l:f<a.length)(g:i->8 * (a.length - f)<=e+4):Nx i a.length (f+1) (TU a d n o m f):=by
 unfold TU;refine Nx.bind (ajV c b l g) λu t s j=>?_;exact Nx.bind (Yl c b j λh=>by have:=g h;omega) λq r p k=>Nx.ok Pv k
section
variable {j:Prop}{k g:Nat}(f:g<a.length)(i:j->8 * (a.length - g)<=e+4)
include j k g f i
def NS:Nx j a.length (g+1) (Xc a d k g):=by
 unfold Xc;refine Nx.bind (Sv c f PK) λ_ q p l=>?_
 split
 ·refine Nx.bind (WA c l) λr o n m=>?_;exact(Zh c b m λh=>by have:=i h;omega).le Pv
 ·exact(Zh c b l λh=>by have:=i h;omega).le Pv
def apf:Nx j a.length (g+1) (n3 a d k g):=by
 unfold n3;refine Nx.bind (Sv c f PK) λ_ q p l=>?_;refine Nx.bind (WA c l) λr o n m=>?_;exact(Zh c b m λh=>by have:=i h;omega).le Pv
def am0:Nx j a.length (g+1) (VD a d k g):=by
 unfold VD
 split
 ·exact ws c b f i
 ·exact ajW c b f i
 ·exact NS c b f i
 ·split
  ·rename_i m l
   exact Nx.ok Qq (pH c f l)
  ·split
   ·rename_i h;exact Nx.ok Qq (Wp c f (by rw[h];decide))
   ·split
    ·rename_i h;exact Nx.ok Qq (Wp c f (by rw[h];decide))
    ·split
     ·rename_i h;exact Nx.ok Qq (Wp c f (by rw[h];decide))
     ·exact Nx.YZ
end
def afT {q:Prop}{m:Nat}(n:q->8 * (a.length - m)<=e+4):∀i g r f,m<f->f<a.length->Nx (q/\a.length - f<i) a.length f (TV a d g i r f):=by
 intro i
 induction i with
 |zero=>intro g j f _ _;exact⟨λh=>absurd h.2 Pv,λ_ _ h=>by (cases h)⟩
 |succ i o=>
  intro g r f u l;unfold TV
  split
  ·have s:=XU c l ‹_› PK;exact Nx.bind (WA c s) λt j p k=>((o g _ j Pv k).le Pv).imp λh=>⟨h.1,by omega⟩
  ·split
   ·refine Nx.bind (t6 c l PK PK (λh=>?_) λj p h=>xQ b h λs=>by have:=n s.1;omega) λt j p k=>((o g _ j Pv k).le Pv).imp λh=>⟨h.1,by omega⟩
    have:=n h.1;rw[b.fuel];omega
   ·exact Nx.ok Qq l
def am1 {j:Prop}{i f:Nat}(l:f<a.length)(g:j->8 * (a.length - f)<=e+4):Nx j a.length (f+1) (VE a d i f):=by
 unfold VE;refine Nx.bind (am0 c b l g) λn m o k=>((afT c b g d.fuel i n m Pv k).le Pv).imp λh=>⟨h,?_⟩;have:=g h;rw[b.fuel];omega
def OM {k f:Nat}(g:f<a.length):Nx (8 * (a.length - f)<e+1) a.length (f+1) (UQ a d k f):=by
 unfold UQ
 split
 ·rename_i o j
  have l:=pH c g j;exact Nx.bind (SS ((b.sg _ _ l).imp λh=>by omega)) λp n m i=>Nx.ok Pv i
 ·exact am1 c b g λh=>by omega
def ahE {m:Prop}{k:Nat}(q:m->8 * (a.length - k)<=e+4):∀g i j n f,k<f->f<a.length->Nx (m/\a.length - f<g) a.length f (U2 a d i j g n f):=by
 intro g
 induction g with
 |zero=>intro i j l f _ _;exact⟨λh=>absurd h.2 Pv,λ_ _ h=>by (cases h)⟩
 |succ g r=>
  intro i j n f u l;unfold U2
  split
  ·exact Nx.ok Qq l
  ·rename_i w p
   have s:=pH c l p
   split
   ·exact Nx.ok Qq l
   ·refine Nx.bind ((b.pr _ _ _ s).imp λh=>?_) λz t v o=>((r i j _ t Pv o).le Pv).imp λh=>⟨h.1,by omega⟩;have:=q h.1;omega
def ST {g:Int}{i f:Nat}(k:f<a.length):Nx (8 * (a.length - f)+1<e+1) a.length (f+1) (Yk a d g i f):=by
 unfold Yk;refine Nx.bind ((b.sg _ _ k).imp λh=>by omega) λm l n j=>((ahE c b (k:=f) (m:=8 * (a.length - f)+1<e+1) (λh=>by omega) d.fuel g i m l Pv j).le Pv).imp λh=>⟨h,?_⟩;rw[b.fuel];omega
def am2 {k f:Nat}(j:f<a.length):Nx (8 * (a.length - f)+2<e+1) a.length (f+1) (V6 a d k f):=by
 unfold V6;refine Nx.bind ((b.pr _ _ _ j).imp λh=>by omega) λq p m g=>?_
 split
 ·have l:=XU c g ‹_› PK
  split
  ·exact Nx.bind (SS ((b.vl _ _ l).imp λh=>by omega)) λr o n i=>Nx.ok Pv i
  ·exact Nx.YZ
 ·exact Nx.ok m g
def O5 {g:Prop}{m f:Nat}(l:f<a.length)(k:g->8 * (a.length - f)+2<e):Nx g a.length (f+1) (nB a d m f):=by
 unfold nB;refine Nx.bind (SS ((b.vl _ _ l).imp k)) λr q p i=>?_;exact Nx.bind (Sv c i PK) λ_ o n j=>Nx.ok Pv j
section
variable {j:Prop}{k f:Nat}(i:f+1<a.length)(g:j->8 * (a.length - f)<=e+4)
include j k f i g
def Mm:Nx j a.length (f+1) (oA a d k f):=by
 unfold oA;refine Nx.bind (WA c i) λv u t m=>?_
 split
 ·exact Nx.YZ
 ·split
  ·have q:=XU c m ‹_› PK;refine Nx.bind (SS ((b.vl _ _ q).imp λh=>by have:=g h;omega)) λw s r n=>?_
   exact Nx.bind (Sv c n PK) λ_ p o l=>Nx.ok Pv l
  ·exact Nx.bind (Sv c m PK) λ_ p o l=>Nx.ok Pv l
def ajZ:Nx j a.length (f+1) (UR a d k f):=by
 unfold UR;refine Nx.bind (ws c b i λh=>by have:=g h;omega) λn r q l=>?_
 exact Nx.bind (SS ((b.st _ _ l).imp λh=>by have:=g h;omega)) λn p o m=>Nx.ok Pv m
def LT:Nx j a.length (f+1) (Xd a d k f):=by
 unfold Xd;refine Nx.bind (ws c b i λh=>by have:=g h;omega) λm v u n=>?_
 refine Nx.bind (SS ((b.st _ _ n).imp λh=>by have:=g h;omega)) λm r q l=>?_
 split
 ·have p:=XU c l ‹_› PK;exact Nx.bind (SS ((b.st _ _ p).imp λh=>by have:=g h;omega)) λm t s o=>Nx.ok Pv o
 ·exact Nx.ok Pv l
def aj1:Nx j a.length (f+1) (XT a d k f):=by
 unfold XT
 split
 ·refine Nx.bind (SS ((b.vl _ _ i).imp λh=>by have:=g h;omega)) λr q p m=>?_
  exact Nx.bind (Sv c m PK) λ_ o n l=>Nx.ok Pv l
 ·exact Nx.bind (Sv c i PK) λ_ o n l=>Nx.ok Pv l
end
section
variable {j:Prop}{k f:Nat}(i:f<a.length)(g:j->8 * (a.length - f)<=e+4)
include j k f i g
def am3:Nx j a.length f (qd a d k f):=by
 unfold qd
 split
 ·have p:=XU c i ‹_› PK;refine Nx.bind (Sv c p PK) λ_ t z l=>?_;refine Nx.bind (WA c l) λ_ s q m=>?_;refine Nx.bind (Sv c m PK) λ_ w u n=>?_;exact Nx.bind (Yl c b n λh=>by have:=g h;omega) λr A v o=>Nx.ok Pv o
 ·exact Nx.ok Qq i
def Nm:Nx j a.length f (Xt a d k f):=by
 unfold Xt
 split
 ·have m:=XU c i ‹_› PK;exact Nx.bind (Yl c b m λh=>by have:=g h;omega) λn p o l=>Nx.ok Pv l
 ·exact Nx.ok Qq i
def N0:Nx j a.length (f+1) (Wx a d k f):=by
 unfold Wx;refine Nx.bind (Sv c i PK) λ_ p h o=>?_;refine Nx.bind (Yl c b o λh=>by have:=g h;omega) λr t A l=>?_
 refine Nx.bind (am3 c b l λh=>by have:=g h;omega) λv s q m=>?_
 refine Nx.bind (Nm c b m λh=>by have:=g h;omega) λw z u n=>?_
 split
 ·exact Nx.YZ
 ·exact Nx.ok Pv n
end
def L4 {j:Prop}{m i l:Nat}(g:i+1<a.length)(f:j->8 * (a.length - i)<=e+4):Nx j a.length (i+1) (nN a d m l i):=by
 unfold nN
 split
 ·exact Mm c b g f
 ·exact apf c b Pv f
 ·exact Yl c b Pv f
 ·exact Nx.bind (Sv c Pv PK) λ_ o n k=>Nx.ok n k
 ·exact LT c b g f
 ·exact ajZ c b g f
 ·exact aj1 c b g f
 ·exact N0 c b Pv f
def aey {j f:Nat}(g:f<a.length):Nx (8 * (a.length - f)+3<e+1) a.length (f+1) (Si a d j f):=by
 unfold Si
 split
 ·rename_i k i
  exact L4 c b (NT c g i PK) λh=>by omega
 ·exact O5 c b g λh=>by omega
omit b in
theorem vu:∀e,ka a e (ig a e):=by
 intro e
 induction e with
 |zero=>exact⟨rfl,λ_ _ _=>⟨λh=>absurd h Pv,λ_ _ h=>by (cases h)⟩,λ_ _ _=>⟨λh=>absurd h Pv,λ_ _ h=>by (cases h)⟩,λ_ _ _ _=>⟨λh=>absurd h Pv,λ_ _ h=>by (cases h)⟩,λ_ _ _=>⟨λh=>absurd h Pv,λ_ _ h=>by (cases h)⟩⟩
 |succ e g=>exact⟨rfl,λ_ _ f=>aey c g f,λ_ _ f=>am2 c g f,λ_ _ _ f=>ST c g f,λ_ _ f=>OM c g f⟩
end
structure Ap (R B:Nat)(w w':Py):Prop where
 os:w'.os=w.os
 tape:w'.tape=w.tape
 output:w'.output=w.output
 size:w.heap.size<=w'.heap.size
 block:∀k,k<B->k≠R->w'.heap[k]?=w.heap[k]?
def Ap.refl (R b:Nat)(a:Py):Ap R b a a:=⟨rfl,rfl,rfl,Qq,λ_ _ _=>rfl⟩
def Ap.of {R B:Nat}{b a:Py}(h:Below B b a):Ap R B b a:=⟨h.os,h.tape,h.output,h.size,λd c _=>h.block d c⟩
def Ap.trans {R b:Nat}{c f g:Py}(h:Ap R b c f)(a:Ap R b f g):Ap R b c g:=
 ⟨a.os.trans h.os,a.tape.trans h.tape,a.output.trans h.output,gr h.size a.size,λi e d=>(a.block i e d).trans (h.block i e d)⟩
def Ap.mono {R b B':Nat}{c a:Py}(h:Ap R b c a)(e:B'<=b):Ap R B' c a:=⟨h.os,h.tape,h.output,h.size,λf d=>h.block f (gH d e)⟩
def Ap.next {R:Nat}{a b c:Py}(h:Ap R a.heap.size a b)(d:Ap R b.heap.size b c):Ap R a.heap.size a c:=h.trans (d.mono h.size)
section
variable {R B:Nat}{b a:Py}(h:Ap R B b a)
include R B b a h
def Ap.drew:Ap R B b a.drew:=⟨h.os,h.tape,h.output,h.size,h.block⟩
def Ap.alloc (d:B<=a.heap.size)(c:Obj):Ap R B b (a.alloc c):=
 h.trans (Ap.of ((gi B a).alloc d c))
def Ap.setCell {p:Addr}(g:B<=p.block\/p.block=R)(d:PO):Ap R B b (a.setCell p d):=
 ⟨h.os,h.tape,h.output,by simpa using h.size,λc e f=>by rw[gZ a p d c Pv];exact h.block c e f⟩
end
def Ap.grown {R a:Nat}{d b c:Py}{f:Option Nat}(h:Ap R a d b)(j:b.grownBy c f)(g:a<=b.heap.size)(i:∀e,f=some e->a<=e):Ap R a d c:=
 h.trans (Ap.of ((gi a b).grown j g i))
section
variable {R a:Nat}{b c:Py}(h:Ap R a b c)
include R a b c h
def Ap.cell {p:Addr}(e:p.block<a)(d:p.block≠R):c.cell? p=b.cell? p:=gN (w:=b) (h.block p.block e d)
def Ap.below (f:a<=R):Below a b c:=⟨h.os,h.tape,h.output,h.size,λe d=>h.block e d Pv⟩
end
def fR {b:Py}{a:Nat}{c:Obj}(h:b.heap[a]?=some c):a<b.heap.size:=(ih.1 h).1
abbrev Qu (a:Int)(c:PS)(b:Int)(d:PO):Obj:=Qb #[Ph a,PI c,Ph b,d] 40
abbrev Pm (a:Nat):PO:=PZ a 0
def qC (d:Nat->Prop)(e:Py)(c:PO)(b:List Nat):Prop:=e.ownsRow 0 22 1 c b.length (b.map Pm)/\∀a,c.ownBlock=some a->d a
mutual
def QT (a:Nat->Prop)(c:Py):Tr->Nat->Prop
 |.mk g k j i,b=>a b/\∃f e,c.heap[b]?=some (Qu g k j f)/\qC a c f e/\P6 (λd=>a d/\d≠b) c i e
def P6 (c:Nat->Prop)(g:Py):List Tr->List Nat->Prop
 |[],b=>b=[]
 |j::i,b=>∃f e d,b=f::e/\QT (λa=>c a/\a<d) g j f/\P6 (λa=>c a/\d<=a) g i e
end
def Uz (d:Nat->Prop)(b c:Py):Prop:=∀a,d a->a<b.heap.size->c.heap[a]?=b.heap[a]?
def Qw {a:Nat->Prop}{l d:Py}{e g k:Nat}{c:PO}{j:Nat}{m:List PO}(o:Uz a l d)(s:∀b,c.ownBlock=some b->a b)(h:l.ownsRow e g k c j m):d.ownsRow e g k c j m:=by
 refine⟨h.1,?_⟩
 rcases h.2 with p|⟨b,q,r,f,n,i,rest⟩
 ·exact fU p
 ·exact f4 ⟨b,q,r,f,n,by rw[o b (s b (by rw[f];rfl)) (fR i)];exact i,rest⟩
mutual
def QT.fQ {I:Nat->Prop}{w w':Py}(d:Uz I w w'):∀(g:Tr)(b:Nat),QT I w g b->QT I w' g b
 |.mk n p o l,b,h=>by
  rw[QT] at h ⊢;obtain⟨e,m,f,a,c,i⟩:=h;exact⟨e,m,f,by rw[d b e (fR a)];exact a,⟨Qw d c.2 c.1,c.2⟩,P6.fQ (λj a k=>d j a.1 k) l f i⟩
def P6.fQ {I:Nat->Prop}{w w':Py}(f:Uz I w w'):∀(a:List Tr)(b:List Nat),P6 I w a b->P6 I w' a b
 |[],b,h=>by rw[P6] at h ⊢;exact h
 |m::a,b,h=>by
  rw[P6] at h ⊢;obtain⟨i,g,j,rfl,l,k⟩:=h;exact⟨i,g,j,rfl,QT.fQ (λd c e=>f d c.1 e) m i l,P6.fQ (λd c e=>f d c.1 e) a g k⟩
end
def Qm {e:Py}{c j m:Nat}{d:PO}{l:Nat}{n:List PO}(h:e.ownsRow c j m d l n)(b:Nat)(a:d.ownBlock=some b):b<e.heap.size/\c<=b:=by
 rcases h.2 with i|⟨q,o,p,g,f,k,rest⟩
 ·rw[i.1] at a;cases a
 ·rw[g] at a;cases a;exact⟨fR k,f⟩
mutual
def QT.mono {i J:Nat->Prop}{g:Py}(f:∀b,i b->b<g.heap.size->J b):∀(l:Tr)(c:Nat),QT i g l c->QT J g l c
 |.mk q s r o,c,h=>by
  rw[QT] at h ⊢;obtain⟨n,p,k,a,d,m⟩:=h;exact⟨f c n (fR a),p,k,a,⟨d.1,λe j=>f e (d.2 e j) (Qm d.1 e j).1⟩,P6.mono (λb a e=>⟨f b a.1 e,a.2⟩) o k m⟩
def P6.mono {g J:Nat->Prop}{f:Py}(j:∀a,g a->a<f.heap.size->J a):∀(c:List Tr)(d:List Nat),P6 g f c d->P6 J f c d
 |[],d,h=>by rw[P6] at h ⊢;exact h
 |o::c,d,h=>by
  rw[P6] at h ⊢;obtain⟨k,i,l,rfl,n,m⟩:=h;exact⟨k,i,l,rfl,QT.mono (λa b e=>⟨j a b.1 e,b.2⟩) o k n,P6.mono (λa b e=>⟨j a b.1 e,b.2⟩) c i m⟩
end
def P6.parts {d:Nat->Prop}{e:Py}{i:Tr}{f:List Tr}{g:List Nat}(h:P6 d e (i::f) g):∃b a,g=b::a/\QT d e i b/\P6 d e f a:=by
 rw[P6] at h;obtain⟨b,a,n,l,m,j⟩:=h;exact⟨b,a,l,QT.mono (λk c _=>c.1) _ _ m,P6.mono (λk c _=>c.1) _ _ j⟩
def P6.length {c:Nat->Prop}{f:Py}:∀(a:List Tr)(b:List Nat),P6 c f a b->b.length=a.length
 |[],b,h=>by rw[P6] at h;rw[h];rfl
 |j::a,b,h=>by
  obtain⟨i,e,rfl,g,d⟩:=h.parts;simp[P6.length a e d]
section
variable {I:Nat->Prop}{a:Py}
include I a
def P6.nil:P6 I a [] []:=by rw[P6]
def P6.pair {M:Nat}{e f:Tr}{d c:Nat}(h:QT (λb=>I b/\b<M) a e d)(i:QT (λb=>I b/\M<=b) a f c):P6 I a [e,f] [d,c]:=by
 rw[P6];refine⟨d,[c],M,rfl,h,?_⟩;rw[P6];exact⟨c,[],a.heap.size,rfl,QT.mono (λ_ g j=>⟨g,j⟩) _ _ i,P6.nil⟩
def P6.cons {c:Tr}{b:Nat}(h:QT I a c b)(_:P6 I a [] []):P6 I a [c] [b]:=by
 rw[P6];exact⟨b,[],a.heap.size,rfl,QT.mono (λ_ d e=>⟨d,e⟩) _ _ h,P6.nil⟩
end
def P6.append {M:Nat}{i:Py}{l:List Tr}{e:List Nat}:∀(d:List Tr)(g:List Nat){c:Nat->Prop},P6 (λb=>c b/\M<=b) i l e->P6 (λb=>c b/\b<M) i d g->P6 c i (d++l) (g++e)
 |[],g,c,j,h=>by rw[P6] at h;subst h;exact P6.mono (λb a _=>a.1) _ _ j
 |o::d,g,c,j,h=>by
  rw[P6] at h;obtain⟨n,k,p,rfl,f,m⟩:=h
  show P6 c i (o::(d++l)) (n::(k++e))
  rw[P6];refine⟨n,k++e,min p M,rfl,QT.mono (λb a _=>⟨a.1.1,by have f:=a.1.2;have m:=a.2;omega⟩) _ _ f,P6.append d k (P6.mono (λb a _=>⟨⟨a.1,by have f:=a.2;omega⟩,a.2⟩) _ _ j) (P6.mono (λb a _=>⟨⟨a.1.1,by have f:=a.2;omega⟩,a.1.2⟩) _ _ m)⟩
def Xh (b:Nat->Prop)(e:Py):List Tr->List Nat->Prop
 |[],a=>a=[]
 |g::f,a=>∃d c,a=d::c/\QT b e g d/\Xh b e f c
def P6.nl {c:Nat->Prop}{e:Py}:∀(a:List Tr)(b:List Nat),P6 c e a b->Xh c e a b
 |[],b,h=>by rw[P6] at h;exact h
 |j::a,b,h=>by
  obtain⟨i,d,rfl,g,f⟩:=h.parts;exact⟨i,d,rfl,g,P6.nl a d f⟩
def Xh.fQ {I:Nat->Prop}{w w':Py}(b:Uz I w w'):∀(a:List Tr)(e:List Nat),Xh I w a e->Xh I w' a e
 |[],_,h=>h
 |_::a,_,⟨d,c,g,i,f⟩=>⟨d,c,g,QT.fQ b _ d i,Xh.fQ b a c f⟩
def Xh.length {c:Nat->Prop}{f:Py}:∀(a:List Tr)(b:List Nat),Xh c f a b->b.length=a.length
 |[],_,h=>by rw[show _=_ from h];rfl
 |j::a,b,h=>by
  obtain⟨i,e,rfl,g,d⟩:=h;simp[Xh.length a e d]
def Xh.nil {a:Nat->Prop}{b:Py}:Xh a b [] []:=rfl
def Xh.cons {a:Nat->Prop}{d:Py}{f:Tr}{b:Nat}{e:List Tr}{c:List Nat}(h:QT a d f b)(g:Xh a d e c):Xh a d (f::e) (b::c):=⟨b,c,rfl,h,g⟩
def Xh.append {c:Nat->Prop}{d:Py}{g:List Tr}{f:List Nat}(e:Xh c d g f):∀(b:List Tr)(a:List Nat),Xh c d b a->Xh c d (b++g) (a++f)
 |[],a,h=>by rw[show a=[] from h];exact e
 |l::b,a,h=>by
  obtain⟨m,j,rfl,k,i⟩:=h;exact Xh.cons k (Xh.append e b j i)
def NV (b:Nat)(f:Py)(d:Tr)(e:PO):Prop:=∃a,e=Pm a/\QT (λc=>b<=c) f d a
def EV (d:Nat)(g:Py)(b:Tr)(i:PO):Prop:=
 ∃a c f,i=Pm a/\d<=a/\g.heap[a]?=some (Qu b.kd b.tx b.n c)/\g.ownsRow d 22 1 c f.length (f.map Pm)/\c.ownBlock≠some a/\P6 (λe=>d<=e/\e≠a/\c.ownBlock≠some e) g b.fS f
def KV (b:Nat)(e:Py)(f:List Tr)(d:PO):Prop:=
 ∃a,e.ownsRow b 22 1 d a.length (a.map Pm)/\P6 (λc=>b<=c/\d.ownBlock≠some c) e f a
def Zx {e:Py}{g a c:Nat}{d:PO}{b:Nat}{f:List PO}(h:e.ownsRow g a c d b f):e.ownsRow 0 a c d b f:=by
 refine⟨h.1,?_⟩
 rcases h.2 with j|⟨m,k,l,i,n,rest⟩
 ·exact fU j
 ·exact f4 ⟨m,k,l,i,ge _,rest⟩
def EV.nv {c:Nat}{f:Py}{b:Tr}{e:PO}(h:EV c f b e):NV c f b e:=by
 obtain⟨l,n,m,rfl,i,a,d,_,g⟩:=h
 cases b with
 |mk o r q p=>
  refine⟨l,rfl,?_⟩;rw[QT];exact⟨i,n,m,a,⟨Zx d,λj k=>(Qm d j k).2⟩,P6.mono (λj a _=>⟨a.1,a.2.1⟩) _ _ g⟩
def Uz.YT {R d:Nat}{e:Nat->Prop}{b c:Py}(h:Ap R b.heap.size b c)(j:R<d)(g:∀a,e a->d<=a):Uz e b c:=λa f i=>h.block a i (by have:=g a f;omega)
def NV.fQ {R a:Nat}{w w':Py}{b:Tr}{c:PO}(h:NV a w b c)(f:Ap R w.heap.size w w')(d:R<a):NV a w' b c:=by
 obtain⟨g,rfl,e⟩:=h;exact⟨g,rfl,QT.fQ (Uz.YT f d λ_ h=>h) _ _ e⟩
def NV.mono {a B':Nat}{d:Py}{b:Tr}{c:PO}(h:NV a d b c)(e:B'<=a):NV B' d b c:=by
 obtain⟨g,rfl,f⟩:=h;exact⟨g,rfl,QT.mono (λi h _=>gr e h) _ _ f⟩
def EV.fQ {R a:Nat}{w w':Py}{g:Tr}{i:PO}(h:EV a w g i)(b:Ap R w.heap.size w w')(d:R<a):EV a w' g i:=by
 obtain⟨f,p,o,rfl,l,c,e,k,j⟩:=h;exact⟨f,p,o,rfl,l,by rw[b.block f (fR c) Pv];exact c,Qw (a:=λm=>a<=m) (Uz.YT b d λ_ h=>h) (λm n=>(Qm e m n).2) e,k,P6.fQ (Uz.YT b d λ_ h=>h.1) _ _ j⟩
def EV.mono {b B':Nat}{e:Py}{c:Tr}{d:PO}(h:EV b e c d)(r:B'<=b):EV B' e c d:=by
 obtain⟨j,l,k,rfl,s,f,a,i,g⟩:=h;refine⟨j,l,k,rfl,by omega,f,?_,i,P6.mono (λm h _=>⟨by omega,h.2⟩) _ _ g⟩;refine⟨a.1,?_⟩;exact IE
def KV.fQ {R a:Nat}{w w':Py}{d:List Tr}{f:PO}(h:KV a w d f)(e:Ap R w.heap.size w w')(b:R<a):KV a w' d f:=by
 obtain⟨k,c,g⟩:=h;exact⟨k,Qw (a:=λi=>a<=i) (Uz.YT e b λ_ h=>h) (λi j=>(Qm c i j).2) c,P6.fQ (Uz.YT e b λ_ h=>h.1) _ _ g⟩
def KV.nil (a:Nat)(b:Py):KV a b [] RF:=⟨[],⟨rfl,fU ⟨rfl,rfl⟩⟩,P6.nil⟩
def Pz (b:Py)(a:Obj):(b.alloc a).heap[b.heap.size]?=some a:=by simpa using hH b a
def EV.new {c:Nat}{a:Py}{k:List Tr}{b:PO}(h:KV c a k b)(o:c<=a.heap.size)(d:Int)(f:PS)(e:Int) :
  EV c (a.alloc (Qu d f e b)) (.mk d f e k) (Pm a.heap.size):=by
 obtain⟨p,i,n⟩:=h;have j:∀g,Uz g a (a.alloc (Qu d f e b)):=λg l _ m=>gy a _ l m;refine⟨a.heap.size,b,p,rfl,o,Pz _ _,Qw (a:=λ_=>True) (j _) (λ_ _=>trivial) i,λh=>?_,P6.fQ (j _) _ _ (P6.mono (λl h m=>⟨h.1,by omega,h.2⟩) _ _ n)⟩;exact absurd (Qm i _ h).1 Pv
def KV.row {f:Nat}{b:Py}{j:List Tr}{a:List Nat}(h:P6 (λd=>f<=d) b j a)(k:f<=b.heap.size)(e:a.length<=maxLen)(c:Array PO)(i:c.toList=a.map Pm) :
  KV f (b.alloc (.cells c 22)) j (.slice (some (Pn b.heap.size 0)) a.length a.length):=by
 have l:∀g,Uz g b (b.alloc (.cells c 22)):=λg d _ e=>gy b _ d e;have n:c.size=a.length:=by rw[<-Array.length_toList,i,gF]
 refine⟨a,⟨by simp,f4 ⟨b.heap.size,a.length,c,rfl,k,Pz _ _,Qq,e,by omega,?_⟩⟩,P6.fQ (l _) _ _ (P6.mono (λd h e=>⟨h,λm=>by simp only[Value.ownBlock,he] at m;omega⟩) _ _ h)⟩
 rw[i];exact iN Qh
structure gI where
 R:Nat
 l:List Tk
 tb:Nat
 cap:Nat
 mS:Nat
 mT:Nat
 mV:Nat
 lo:Nat
def nu (a:Sg):PO:=.agg #[PI a.tx,Ph a.kd,Ph a.parts,Ph a.str]
def rM (a:(PS×PO)×Nat):MapEntry:={ key:=PI a.1.1,val:=a.1.2,born:=a.2 }
def mapOf (a:List (PS×PO)):Array MapEntry:=((a.zipIdx).map rM).toArray
def sH:Array MapEntry:=mapOf (jJ.map λa=>(a.tx,nu a))
def VW (R:Nat)(a:Nat):PO:=.func (.func a) #[PZ R 0] #[]
def xW:Nat->Nat
 |0=>147
 |1=>148
 |2=>149
 |3=>150
 |4=>151
 |5=>152
 |6=>153
 |_=>154
def oM:Nat->Nat
 |0=>155
 |1=>156
 |_=>157
def rt (R:Nat):Array MapEntry:=mapOf (Vh.map λa=>(a.1,VW R (xW a.2)))
def rG (R:Nat):Array MapEntry:=mapOf (Ur.map λa=>(a.1,VW R (oM a.2)))
def W9:Array PO:=(hG.flatMap λa=>[PI a.1,Ph a.2]).toArray
def gI.tv (a:gI):PO:=.slice (some (Pn a.tb 0)) a.l.length a.cap
structure kr (c:gI)(w:Py):Prop where
 ends:Ends c.l
 tokens:∃cu,w.heap[c.tb]?=some (Qb cu 144)/\c.l.length<=c.cap/\c.cap<=maxLen/\cu.size=c.cap * 4/\cu.toList.take (c.l.length * 4)=SN c.l
 ntb:c.tb≠c.R
 hB:w.heap[c.mS]?=some (.map sH 14)
 nS:c.mS≠c.R
 Dm:w.heap[c.mT]?=some (.map (rt c.R) 12)
 nT:c.mT≠c.R
 jG:w.heap[c.mV]?=some (.map (rG c.R) 3)
 nV:c.mV≠c.R
 len:c.l.length<=3001
 jK:∃t fr,w.heap[4]?=some (.cells W9 t fr)
 nH:4≠c.R
 rI:c.tb<c.lo/\c.mS<c.lo/\c.mT<c.lo/\c.mV<c.lo/\4<c.lo/\c.R<c.lo
 size:c.lo<=w.heap.size
def kr.fQ {b:gI}{c:Nat}{w w':Py}(h:kr b w)(a:Ap b.R c w w')(z:b.lo<=c):kr b w':=by
 obtain⟨q,⟨m,r,j⟩,d,k,e,l,f,o,g,n,⟨v,p,t⟩,i,s,u⟩:=h;exact⟨q,⟨m,by rw[a.block _ Pv d];exact r,j⟩,d,by rw[a.block _ Pv e];exact k,e,by rw[a.block _ Pv f];exact l,f,by rw[a.block _ Pv g];exact o,g,n,⟨v,p,by rw[a.block _ Pv i];exact t⟩,i,s,gr u a.size⟩
def LK (a:gI)(c b:Nat):Obj:=Qb #[a.tv,Ph (c:Int),Ph (b:Int),.map (some a.mS),.map (some a.mT),.map (some a.mV)] 233
structure QS (c:gI)(w:Py)(i d:Nat):Prop where
 base:kr c w
 gG:w.heap[c.R]?=some (LK c i d)
 lt:i<c.l.length
 deep:d<=30
def QS.fQ {b:gI}{w w':Py}{d c:Nat}(h:QS b w d c)(a:PG w w'):QS b w' d c:=
 ⟨h.base.fQ (Ap.of a) h.base.size,by rw[a.block _ (fR h.gG)];exact h.gG,h.lt,h.deep⟩
def QS.ap {a:gI}{c:Nat}{g b:Py}{f e:Nat}(h:QS a g f e)(d:Below c g b)(i:a.lo<=c):QS a b f e:=
 ⟨h.base.fQ (Ap.of d) i,by rw[d.block _ (by have:=h.base.rI;omega)];exact h.gG,h.lt,h.deep⟩
def QS.kP {a:gI}{b:Py}{d c:Nat}(h:QS a b d c):a.R<b.heap.size:=fR h.gG
section
variable {b:Py}{a:Nat}{c:Array PO}{d:TypeId}
include b a c d
def cell_of {f:Nat×Nat}(h:b.heap[a]?=some (.cells c d f))(e:Nat):b.cell? (Pn a e)=c[e]?:=by
 simp[World.cell?,h]
def Rn (h:b.heap[a]?=some (Qb c d))(e:Nat):b.frozen? (Pn a e)=false:=by
 simp[World.frozen?,h]
end
section
variable {a:gI}{b:Py}{c d:Nat}(h:QS a b c d)
include a b c d h
def QS.c0:b.cell? (Pn a.R 0)=some a.tv:=by rw[cell_of h.gG];rfl
def QS.c1:b.cell? (Pn a.R 1)=some (Ph (c:Int)):=by rw[cell_of h.gG];rfl
def QS.c2:b.cell? (Pn a.R 2)=some (Ph (d:Int)):=by rw[cell_of h.gG];rfl
def QS.c3:b.cell? (Pn a.R 3)=some (.map (some a.mS)):=by rw[cell_of h.gG];rfl
def QS.c4:b.cell? (Pn a.R 4)=some (.map (some a.mT)):=by rw[cell_of h.gG];rfl
def QS.c5:b.cell? (Pn a.R 5)=some (.map (some a.mV)):=by rw[cell_of h.gG];rfl
def QS.fz (e:Nat):b.frozen? (Pn a.R e)=false:=Rn h.gG e
end
def gb {d:Py}{a b:Nat}{e:Array PO}{g:TypeId}{f:Nat×Nat}(h:d.heap[a]?=some (.cells e g f))(c:PO) :
  (d.setCell (Pn a b) c).heap[a]?=some (.cells (e.setIfInBounds b c) g f):=by
 obtain⟨k,i⟩:=ih.1 h;have j:a<(d.setCell (Pn a b) c).heap.size:=by simpa[World.setCell] using k
 rw[ih];refine⟨j,?_⟩;simp only[World.setCell,Array.getElem_modify_self,i];rfl
section
variable {a:gI}{b:Py}{e d:Nat}(h:QS a b e d)
include a b e d h
def QS.go (c:Nat)(f:c<a.l.length):QS a (b.setCell (Pn a.R 1) (Ph (c:Int))) c d:=
 ⟨h.base.fQ (Ap.setCell (R:=a.R) (Ap.refl _ _ _) (p:=(Pn a.R 1)) (f4 rfl) _) h.base.size,by rw[gb h.gG];rfl,f,h.deep⟩
def QS.aIP (c:Nat)(f:c<=30):QS a (b.setCell (Pn a.R 2) (Ph (c:Int))) e c:=
 ⟨h.base.fQ (Ap.setCell (R:=a.R) (Ap.refl _ _ _) (p:=(Pn a.R 2)) (f4 rfl) _) h.base.size,by rw[gb h.gG];rfl,h.lt,f⟩
end
def p4 (a:Int)(b:Nat):List PanicEntry:=[{ v:=.iface 148 (.agg #[Ph a,Ph (b:Int)]),recovered:=false }]
def Rt {α:Type}(c:gI)(b:Py)(g:Nat)(f:Py->α->PO->Prop)(j:PR α)(d:Ending)(a:Py):Prop:=
 match j with
 |.ok x i=>(∃e,d=PY e/\f a x e)/\QS c a i g/\Ap c.R b.heap.size b a
 |.ga e i=>d=.panicked (p4 e i)/\Ap c.R b.heap.size b a
 |.out=>True
def pu {a b:PS}(h:a≠b):(a.toList==b.toList)=false:=by
 rw[gT,iE,iE];exact λc=>h (Go.WideShapes.bytes_inj c)
def Aw {a b:PS}(h:a=b):(a.toList==b.toList)=true:=by rw[h];exact beq_self_eq_true _
section
variable {b a:PS}{c:List UInt8}(d:a.data.toList=c)
include b a c d
def VX (h:b≠a):(b.toList==c)=false:=by
 rw[<-d,<-iE];exact pu h
def WV (h:b=a):(b.toList==c)=true:=by
 rw[<-d,<-iE];exact Aw h
end
def kC (a:Tk):PO:=.agg #[Ph a.kd,PI a.tx,Ph a.n,Ph (a.pl:Int)]
abbrev Qr (a:gI):PO:=PZ a.R 0
def Af:∀(c:List Tk)(b a:Nat),b<c.length->a<4->(SN c)[b * 4+a]? =(X0 (Qn c b))[a]?
 |[],b,a,h,_=>absurd h Qh
 |f::c,0,a,_,d=>by
  simp only[SN,hM,Qn,mG,jn,h3];rw[g6 (by simp[X0];omega)]
 |f::c,b+1,a,h,d=>by
  have e:=Af c b a (by simpa using h) d;simp only[SN,hM,Qn,List.getD_cons_succ] at e ⊢;rw[g5 (by simp[X0];omega)]
  rw[show (b+1) * 4+a - (X0 f).length=b * 4+a by simp[X0];omega]
  exact e
def kr.tok {a:gI}{d:Py}(h:kr a d)(b c:Nat)(i:b<a.l.length)(g:c<4):d.cell? (Pn a.tb (b * 4+c))=(X0 (Qn a.l b))[c]?:=by
 obtain⟨l,e,m,j,k,f⟩:=h.tokens;rw[cell_of e,<-Af a.l b c i g,<-f,mw Pv,mX]
def kr.tlt {a:gI}{b:Py}(h:kr a b):a.tb<b.heap.size:=by
 obtain⟨d,c,_⟩:=h.tokens;exact fR c
def TD (a:gI)(c:Py)(b e:Nat)(h:QS a c b e) :
  PN 158 #[Qr a] c λf d=>f=PY (kC (Qn a.l b))/\PG c d:=by
 have m:c.cell? (Pn a.R 0)=some (.slice (some (Pn a.tb 0)) a.l.length a.cap):=h.c0;have n:=h.c1;have j:=h.kP;have k:=h.base.tlt;have g:(b:Int)<(a.l.length:Int):=by have:=h.lt;omega
 have o:c.cell? (Pn a.tb (b * 4))=some (Ph (Qn a.l b).kd):=h.base.tok b 0 h.lt PK;have p:c.cell? (Pn a.tb (b * 4+1))=some (PI (Qn a.l b).tx):=h.base.tok b 1 h.lt PK;have i:c.cell? (Pn a.tb (b * 4+2))=some (Ph (Qn a.l b).n):=h.base.tok b 2 h.lt PK;have l:c.cell? (Pn a.tb (b * 4+3))=some (Ph ((Qn a.l b).pl:Int)):=h.base.tok b 3 h.lt PK;clear h;go_enter func158,ntmps158;go_wp2_with fail
 go_region
 go_wp2_with fail;exact hp (v:=kC (Qn a.l b)) (by simp[results,results158,go_sem,kC]) rfl ⟨rfl,QK.drew⟩
def HI {a b:PS}(h:a=b):Ending.returned (PI a)=PY (PI b):=by rw[h]
def Ub (a:gI)(d:Py)(c i:Nat)(h:QS a d c i) :
  PN 221 #[Qr a] d λf k=>f=PY (PI (fx a.l c))/\PG d k:=by
 have j:=TD a d c i h;clear h
 cases g:(Qn a.l c).kd==2
 ·
  cases l:(Qn a.l c).kd==5
  all_goals
   go_enter func221,ntmps221;go_wp2_with fail;refine cm j ?_;rintro f m ⟨rfl,e⟩;have b:=e;unfold kC;go_wp2;go_ret;exact⟨HI (by simp[fx,g,l]),b.alloc b.size _⟩
 ·go_enter func221,ntmps221;go_wp2_with fail;refine cm j ?_;rintro f m ⟨rfl,e⟩;have b:=e;unfold kC;go_wp2;go_ret;exact⟨HI (by simp[fx,g]),b.alloc b.size _⟩
section
variable {α:Type}{c:gI}{b a:Py}{f:Nat}{e:Py->α->PO->Prop}{d:PR α}
include α c b a f e d
def Ry {g:Int}{i:Nat}(j:d=.ga g i)(k:Ap c.R b.heap.size b a) :
  Rt c b f e d (.panicked (p4 g i)) a:=by rw[j];exact⟨rfl,k⟩
def UM {x:α}{i:Nat}{g:PO}(j:d=.ok x i)(k:e a x g)(m:QS c a i f)(l:Ap c.R b.heap.size b a) :
  Rt c b f e d (PY g) a:=by rw[j];exact⟨⟨g,rfl,k⟩,m,l⟩
end
def CZ (e:gI)(a:Int)(b:Tk)(c:Py) :
  PN 279 #[Qr e,Ph a,kC b] c λf d=>f=.panicked (p4 a b.pl)/\PG c d:=by
 unfold kC;go_enter func279,ntmps279;go_wp2_with fail;exact⟨rfl,rfl,QK⟩
def V8 (a:gI)(e:Int)(c:Py)(b g:Nat)(h:QS a c b g) :
  PN 222 #[Qr a,Ph e] c λd i=>d=.panicked (p4 e (Qn a.l b).pl)/\PG c i:=by
 have k:=TD a c b g h;go_enter func222,ntmps222;go_wp2_with fail;refine cm k ?_;rintro d m ⟨rfl,f⟩;have l:=CZ a e (Qn a.l b) m;go_wp2_with fail;refine cm l ?_;rintro d n ⟨rfl,j⟩;exact⟨rfl,rfl,f.trans (j.mono f.size)⟩
def QS.sb {a:gI}{e:Py}{i c:Nat}(h:QS a e i c)(b:Nat)(f:b<a.l.length){d:Int}(g:d=(b:Int)):QS a (e.setCell (Pn a.R 1) (Ph d)) b c:=by
 subst g;exact h.go b f
def ru {a:gI}{b d:Py}(e:PG b d)(f:PO)(c:Nat):Ap a.R b.heap.size b (d.setCell (Pn a.R c) f):=
 Ap.setCell (R:=a.R) (Ap.of e) (p:=(Pn a.R c)) (f4 rfl) _
section
variable (a:gI)(d:PS)(c:Py)(b e:Nat)(h:QS a c b e)
include a d c b e h
def Ua (j:fx a.l b=d)(k:d≠PE) :
  PN 223 #[Qr a,PI d] c λl g=>l=PY (PD true)/\QS a g (b+1) e/\Ap a.R c.heap.size c g:=by
 have n:=Ub a c b e h;have m:b+1<a.l.length:=XU h.base.ends h.lt j k;have p:=h.base.len;subst j;clear k;go_enter func223,ntmps223;go_wp2_with fail;refine cm n ?_;rintro l r ⟨rfl,i⟩;have f:=h.fQ i;have q:=f.c1;have o:=f.fz;go_wp2;go_ret;exact⟨rfl,f.sb (b+1) m Pv,ru i _ _⟩
def UL (f:fx a.l b≠d) :
  PN 223 #[Qr a,PI d] c λg i=>g=PY (PD false)/\PG c i:=by
 have k:=Ub a c b e h;have l:=pu f;clear f;go_enter func223,ntmps223;go_wp2_with fail;refine cm k ?_;rintro g m ⟨rfl,j⟩;go_wp2;go_ret;exact⟨rfl,j⟩
end
abbrev UV:Py->Unit->PO->Prop:=λ_ _ a=>a=.tuple #[]
def Qp (a:gI)(c:PS)(g:Py)(b f:Nat)(h:QS a g b f)(j:c≠PE) :
  PN 225 #[Qr a,PI c] g (Rt a g f UV (Qx a.l c b)):=by
 by_cases d:fx a.l b=c
 ·have l:=Ua a c g b f h d j;have e:Qx a.l c b=.ok () (b+1):=by unfold Qx;rw[fY d]
  rw[e];clear j d e;go_enter func225,ntmps225;go_wp2_with fail;refine cm l ?_;rintro m n ⟨rfl,i,o⟩;have k:=i;go_wp2
  go_end0
  exact UM rfl rfl k o
 ·have l:=UL a c g b f h d;have e:Qx a.l c b=.ga 3 (Qn a.l b).pl:=by unfold Qx;rw[fT d];rfl
  rw[e];have k:=h;clear j d e;go_enter func225,ntmps225;go_wp2_with fail;refine cm l ?_;rintro m n ⟨rfl,i⟩;have p:=V8 a 3 n b f (k.fQ i);go_wp2_with fail;refine cm p ?_;rintro m q ⟨rfl,o⟩;exact⟨rfl,Ry rfl (Ap.of (i.trans (o.mono i.size)))⟩
def rB (a:Tk)(W:Py):(Instr.field 144 (.agg #[Ph a.kd,PI a.tx,Ph a.n,Ph (a.pl:Int)]) 0).run prog W=.ok (Ph a.kd) W:=by kernel_rfl
def CP (a:Tk)(W:Py):(Instr.field 144 (.agg #[Ph a.kd,PI a.tx,Ph a.n,Ph (a.pl:Int)]) 1).run prog W=.ok (PI a.tx) W:=by kernel_rfl
def yo (a:gI)(c:Py)(b d:Nat)(h:QS a c b d) :
  PN 228 #[Qr a] c λe f=>e=PY (PD (gX a.l b))/\PG c f:=by
 have i:=TD a c b d h;go_enter func228,ntmps228;go_wp2_with fail;refine cm i ?_;rintro e k ⟨rfl,g⟩;have j:=rB (Qn a.l b);unfold kC;go_wp2;go_ret;exact⟨rfl,g⟩
abbrev SV:Py->PS->PO->Prop:=λ_ a b=>b=PI a
def gS (a:gI)(k:Py)(b i:Nat)(h:QS a k b i) :
  PN 220 #[Qr a] k (Rt a k i SV (gK a.l b)):=by
 have j:=yo a k b i h
 by_cases d:(Qn a.l b).kd=1
 ·have f:gK a.l b=.ok (Qn a.l b).tx (b+1):=by unfold gK;rw[fY d]
  have q:b+1<a.l.length:=Wp h.base.ends h.lt (by rw[d];decide)
  have v:=h.base.len;have e:gX a.l b=true:=by unfold gX;rw[d];rfl
  rw[f];rw[e] at j;have m:=h;clear h d f e;go_enter func220,ntmps220;go_wp2_with fail;refine cm j ?_;rintro n o ⟨rfl,c⟩;have g:=c;have p:=m.fQ c;have s:=TD a o b i p;go_wp2_with fail;refine cm s ?_;rintro n t ⟨rfl,c⟩;have r:=g.trans (c.mono g.size);have l:=p.fQ c;have z:=l.c1;have u:=l.fz;have w:=CP (Qn a.l b);unfold kC;go_wp2;go_ret;exact UM rfl rfl (l.sb (b+1) q Pv) (ru r _ _)
 ·have f:gK a.l b=.ga 3 (Qn a.l b).pl:=by unfold gK;rw[fT d];rfl
  have e:gX a.l b=false:=by unfold gX;exact gT.2 d
  rw[f];rw[e] at j;have m:=h;clear h d f e;go_enter func220,ntmps220;go_wp2_with fail;refine cm j ?_;rintro n o ⟨rfl,c⟩;have g:=c;have p:=V8 a 3 o b i (m.fQ c);go_wp2_with fail;refine cm p ?_;rintro n t ⟨rfl,l⟩;exact⟨rfl,Ry rfl (Ap.of (g.trans (l.mono g.size)))⟩
def QO (e:Int)(g:PS)(a:PO)(b:Py)(j:∃c f d,a=.slice c f d) :
  PN 162 #[Ph e,PI g,a] b λk i=>k=PY (Pm b.heap.size)/\i=b.alloc (Qu e g 0 a):=by
 obtain⟨c,f,d,rfl⟩:=j;go_enter func162,ntmps162;go_wp2;go_ret;exact⟨rfl,rfl⟩
def Wd (a b:PS):(a==b)=decide (a=b):=by
 by_cases h:a=b
 ·subst h;rw[hr rfl]
  cases a with
  |mk a=>
   show (a==a)=true
   exact beq_self_eq_true _
 ·rw[hi h]
  cases a with
  |mk a=>cases b with
   |mk b=>
    show (a==b)=false
    rw[gT];exact λc=>h (by rw[c])
def wl (e:PS):∀(c:List (PS×PO))(d a:Nat),
  ∃f,Instr.findNow .string (PI e) ((c.zipIdx d).map rM) a=some f/\f.map (·.2)=(c.find? (λb=>decide (e=b.1))).map (·.2)
 |[],d,a=>⟨none,rfl,rfl⟩
 |b::c,d,a=>by
  simp only[kE,hv,Instr.findNow,rM,Instr.sameNow,Wd,jq]
  cases h:decide (e=b.1)
  ·simp only;exact wl e c (d+1) (a+1)
  ·exact⟨some (a,b.2),rfl,rfl⟩
def yQ (l n:TypeId)(k f:Nat)(a:List (PS×PO))(b:PS)(m:PO)(W:Py)(u:prog.underlying l=some (.map 9 n))(s:W.heap[k]?=some (.map (mapOf a) f))(o:(zeroValue n).run prog W=.ok m W) :
  (Instr.lookup l (.map (some k)) (PI b) true).run prog W=.ok (.tuple #[((a.find? (λc=>decide (b=c.1))).map (·.2)).getD m,PD (a.find? (λc=>decide (b=c.1))).isSome]) W:=by
 obtain⟨j,v,d⟩:=wl b a 0 0;have g:=kz;have p:(Instr.findKey 9 (PI b) (mapOf a).toList).run prog W=.ok j W:=by
  refine s6 ?_;simp only[h5,mapOf];rw[v];rfl
 unfold Instr.lookup;rw[gW,hx u W];have q:∀e,(Instr.checkKey e 10000 9 (PI b)).run prog W=.ok () W:=tP
 have r:(getObj k).run prog W=.ok (.map (mapOf a) f) W:=by simp[getObj,Sem.run,s]
 exact HC
def qZ:PO:=.agg #[QB,Ph 0,Ph 0,Ph 0]
def sr (a:Option Sg):PO:=match a with|some b=>nu b|none=>qZ
def YM (b:gI)(a:PS)(W:Py)(h:W.heap[b.mS]?=some (.map sH 14)) :
  (Instr.lookup 229 (.map (some b.mS)) (PI a) true).run prog W=.ok (.tuple #[sr (lF a),PD (lF a).isSome]) W:=by
 rw[yQ 229 275 b.mS 14 _ a qZ W underlying229 h Qz];unfold lF;rw[ld];simp only[lz]
 cases jJ.find? (λc=>decide (a=c.tx)) <;> rfl
def J8 (R:Nat)(a:Option Nat):PO:=match a with|some b=>VW R (xW b)|none=>.nilFunc
def Hw (R:Nat)(a:Option Nat):PO:=match a with|some b=>VW R (oM b)|none=>.nilFunc
def Do (a:gI)(b:PS)(W:Py)(h:W.heap[a.mT]?=some (.map (rt a.R) 12)) :
  (Instr.lookup 231 (.map (some a.mT)) (PI b) true).run prog W=.ok (.tuple #[J8 a.R (Sr Vh b),PD (Sr Vh b).isSome]) W:=by
 rw[yQ 231 281 a.mT 12 _ b .nilFunc W k8 h Qz];unfold Sr;rw[ld];simp only[lz]
 cases Vh.find? (λc=>decide (b=c.1)) <;> rfl
def AX (a:gI)(b:PS)(W:Py)(h:W.heap[a.mV]?=some (.map (rG a.R) 3)) :
  (Instr.lookup 231 (.map (some a.mV)) (PI b) true).run prog W=.ok (.tuple #[Hw a.R (Sr Ur b),PD (Sr Ur b).isSome]) W:=by
 rw[yQ 231 281 a.mV 3 _ b .nilFunc W k8 h Qz];unfold Sr;rw[ld];simp only[lz]
 cases Ur.find? (λc=>decide (b=c.1)) <;> rfl
def aAt:W9.size=16:=by decide +kernel
def Pu (a:Nat)(b:a<8)(W:Py):(Instr.index 285 (.agg W9) (Ph (a:Int))).run prog W=.ok (.agg #[PI (hG.getD a (PE,0)).1,Ph (hG.getD a (PE,0)).2]) W:=by
 have h:a=0\/a=1\/a=2\/a=3\/a=4\/a=5\/a=6\/a=7:=Pv
 rcases h with rfl|rfl|rfl|rfl|rfl|rfl|rfl|rfl <;> (show _=_;kernel_rfl)
def MH {d:PS}{a:Nat}(e:a<8)(f:∀c,c<a->d≠(hG.getD c (PE,0)).1)(h:d=(hG.getD a (PE,0)).1):RN d=(hG.getD a (PE,0)).2:=by
 have i:∀(b:List (PS×Int))(a:Nat),a<b.length->(∀c,c<a->d≠(b.getD c (PE,0)).1)->d=(b.getD a (PE,0)).1->(Sr b d).getD 0=(b.getD a (PE,0)).2:=by
  intro b
  induction b with
  |nil=>intro a e;exact absurd e Qh
  |cons k b g=>
   intro a e f h;unfold Sr;rw[jq]
   cases a with
   |zero=>
    simp only[mG] at h ⊢;rw[hr h];rfl
   |succ a=>
    have:=f 0 Pv;simp only[mG] at this;rw[hi this];exact g a (by simpa using e) (λc j=>by simpa using f (c+1) Pv) (by simpa using h)
 exact i hG a (by simpa[hG] using e) f h
def avW {b:PS}(g:∀a,a<8->b≠(hG.getD a (PE,0)).1):RN b=0:=by
 unfold RN Sr;have:hG.find? (λd=>decide (b=d.1))=none:=by
  rw[jQ];intro d f;obtain⟨a,c,rfl⟩:=jk f;have e:a<8:=by simpa[hG] using c
  have:=g a e;rw[hk,gq c] at this;simpa using this
 rw[this];rfl
def K7 (i:PS)(j:Py)(w:TypeId)(t:Nat×Nat)(d:j.heap[4]?=some (.cells W9 w t)) :
  PN 278 #[PI i] j λn A=>n=PY (Ph (RN i))/\PG j A:=by
 have u:=Y d;obtain⟨l,f⟩:=xE W9;have v:∀g:Nat,g<8->∀W,(Instr.index 285 (.agg l) (Ph (g:Int))).run prog W=.ok (.agg #[PI (hG.getD g (PE,0)).1,Ph (hG.getD g (PE,0)).2]) W:=by rw[f];exact Pu
 have s:l.size=16:=by rw[f];exact aAt
 rw[<-f] at u;have F:=Y v;have H:=Y s;clear d v f s;go_enter func278,ntmps278
 go_wp2_with (refine k9 rfl 285 _ rfl 4 rfl w l t _ u.out underlying285 rfl (by rw[H.out];kernel_rfl) ?_)
 go_loopw [6] (λo wr=>∃a:Nat,a<=8/\o=Ph a/\(∀b,b<a->i≠(hG.getD b (PE,0)).1)/\PG j wr) (λo _=>8 - (intOf o).toNat)
 case atStart=>exact⟨0,ge _,rfl,λb k=>absurd k (lE _),RV⟩
 case round=>
  obtain⟨a,I,rfl,r,e⟩:=hrel;have m:=Y r;clear r
  by_cases q:a<8
  ·have D:=Pj F a q;obtain⟨E,d⟩:=xE ((hG.getD a (PE,0)).1);obtain⟨L,p⟩:=xH ((hG.getD a (PE,0)).2);rw[<-d,<-p.out] at D;have z:=Y d;clear d
   by_cases c:E=i
   ·have C:=Aw c;have HP:=Y c;clear c;go_wp2;go_ret;refine⟨tk ?_,e.alloc e.size _⟩;rw[MH q m.out (by rw[<-z.out];exact HP.out.symm),p.out]
   ·have C:=pu c;have HP:=Y c;clear c;go_wp2
    go_roundw
    case rel=>exact⟨a+1,by omega,by go_num,λb k=>by (by_cases B:b=a);(rw[B,<-z.out];exact λn=>Pj HP n.symm);exact Pj m b Pv,e.alloc e.size _⟩
    case measure=>simp[intOf];omega
  ·go_wp2;go_ret;exact⟨tk (avW (λb k=>Pj m b Pv)).symm,e⟩
def te (a:gI)(d:Py)(b f:Nat)(h:QS a d b f)(j:(Qn a.l b).kd≠6) :
  PN 219 #[Qr a] d λg i=>g=PY (Ph (RN (Qn a.l b).tx))/\QS a i (b+1) f/\Ap a.R d.heap.size d i:=by
 have p:=TD a d b f h;have n:b+1<a.l.length:=Wp h.base.ends h.lt j;have v:=h.base.len;clear j;go_enter func219,ntmps219;go_wp2_with fail;refine cm p ?_;rintro g t ⟨rfl,c⟩;have l:=c;have m:=h.fQ c;obtain⟨s,r,k⟩:=m.base.jK;have q:=K7 (Qn a.l b).tx t s r k;have w:=CP (Qn a.l b);clear k;unfold kC;go_wp2_with fail;refine cm q ?_;rintro g A ⟨rfl,c⟩;have o:=l.trans (c.mono l.size);have e:=m.fQ c;have z:=e.c1;have u:=e.fz;go_wp2;go_ret
 exact⟨rfl,e.sb (b+1) n Pv,ru o _ _⟩
def hC (b:gI)(g:Nat)(f:Nat->Py->Tr->PO->Prop)(i:Nat->Nat->PR Tr):Prop:=
 ∀a c e d,i c e=d->d≠.out->QS b a e c->PN g #[Qr b] a (Rt b a c (f a.heap.size) d)
def RY (R a:Nat)(W:Py):(Instr.makeFunc (.func a) #[PZ R 0] #[]).run prog W=.ok (VW R a) W:=rfl
def QS.zM {b:gI}{e:Py}{c i:Nat}(h:QS b e c i)(a:Nat)(g:a<=30){d:Int}(f:d=(a:Int)):QS b (e.setCell (Pn b.R 2) (Ph d)) c a:=by
 subst f;exact h.aIP a g
def w6 (a:gI)(m:Nat)(q:Nat->Nat->PR Tr)(u:hC a m NV q)(D:WU m)(d:Py)(b j:Nat)(f:PR Tr)(e:QJ a.l q b j=f)(g:f≠.out)(h:QS a d j b):PN 159 #[Qr a,VW a.R m] d (Rt a d b (NV d.heap.size) f):=by
 have s:=h.c2;have v:=h.fz;have p:=h.deep
 by_cases n:b=30
 ·have k:=V8 a 4 d j b h;subst n;unfold QJ at e;rw[fY rfl] at e;have c:=Y e;clear e g D p;go_enter func159,ntmps159;go_wp2_with fail;refine cm k ?_;rintro B F ⟨rfl,i⟩;exact⟨rfl,Ry c.out.symm (Ap.of i)⟩
 ·unfold QJ at e;rw[fT n] at e;have I:((b:Int)==30)=false:=gT.2 Pv;have c:Hid _:=u (d.setCell (Pn a.R 2) (Ph ((b:Int)+1))) (b+1) j f e g (h.zM (b+1) Pv Pv);have A:=Y g;clear e g;unfold VW;go_enter func159,ntmps159;go_wp2_with fail;refine XO ?_;intro B F o
  cases f with
  |out=>exact absurd rfl A.out
  |ga k r=>
   obtain⟨rfl,l⟩:=o;refine⟨rfl,Ry rfl ?_⟩;exact(ru (a:=a) (gi _ d) _ 2).trans (by simpa using l)
  |ok x M=>
   obtain⟨⟨r,rfl,z⟩,k,l⟩:=o;have E:=(ru (a:=a) (gi _ d) (Ph ((b:Int)+1)) 2).trans (by simpa using l);have L:=k.c2;have H:=k.fz;clear v s;go_wp2;go_ret;have C:=λr=>E.trans (Ap.setCell (R:=a.R) (B:=d.heap.size) (Ap.refl _ _ _) (p:=(Pn a.R 2)) (f4 rfl) r);have w:=h.kP;refine UM rfl ?_ (k.zM b p Pv) (C _);exact NV.fQ (R:=a.R) (by simpa using z) (Ap.setCell (R:=a.R) (Ap.refl _ _ _) (p:=(Pn a.R 2)) (f4 rfl) _) w
def UC {g:Py}{i:Nat}{f:PO}{a:List Nat}(h:g.ownsRow i 22 1 f a.length (a.map Pm))(r:0<a.length) :
  ∃c d,f=.slice (some (Pn c 0)) a.length d/\∀b,(e:b<a.length)->g.cell? (Pn c b)=some (Pm a[b]):=by
 rcases h.2 with q|⟨c,d,l,k,n,m,s,o,p,j⟩
 ·omega
 ·refine⟨c,d,k,λb e=>?_⟩;rw[cell_of m,<-mX];have:(l.toList.take (a.length * 1))[b]? =(a.map Pm)[b]?:=by rw[j]
  rw[mw Pv] at this;rw[this,jc,gq e];rfl
def VG {i:Py}{e:Nat}{d:PO}{c:Nat}{j:List PO}(h:i.ownsRow e 22 1 d c j):∃f a,d=.slice f c a:=by
 rcases h.2 with b|⟨l,a,k,g,_⟩
 ·exact⟨none,0,by rw[b.1,b.2]⟩
 ·exact⟨_,a,g⟩
def YP {a:Tr}(h:∀c e b d,a.fS=c::e->c.fS=b::d->c.kd=15->b.kd=18->b.tx≠pZ):VT a=a:=by
 unfold VT
 split
 ·rename_i l q n c m j b p k o d e
  rw[fT];rintro⟨f,g,i⟩;exact h _ _ _ _ rfl rfl f g i
 ·rfl
def agU {a c b:Tr}{k j:List Tr}(i:a.fS=c::k)(d:c.fS=b::j)(f:c.kd=15)(e:b.kd=18)(g:b.tx=pZ):VT a=.mk a.kd Wj a.n a.fS:=by
 cases a with
 |mk t w v u=>
  simp only[Tr.fS] at i;subst i
  cases c with
  |mk l o q n=>
   simp only[Tr.fS] at d;subst d
   cases b with
   |mk m p r s=>
    simp only[Tr.kd,Tr.tx] at f e g;simp only[VT,Tr.kd,Tr.n,Tr.fS];rw[fY ⟨f,e,g⟩]
def EV.text {i:Nat}{c:Py}{e:Tr}{d:Nat}(h:EV i c e (Pm d))(g:PS):EV i (c.setCell (Pn d 1) (PI g)) (.mk e.kd g e.n e.fS) (Pm d):=by
 obtain⟨b,s,r,o,n,f,m,j,l⟩:=h;have:b=d:=by simpa[Pm] using o.symm
 subst this;have k:∀a,a≠b->(c.setCell (Pn b 1) (PI g)).heap[a]?=c.heap[a]?:=λa f=>gZ c (Pn b 1) _ a f;refine⟨b,s,r,rfl,n,by rw[gb f];rfl,?_,j,P6.fQ (λa h _=>k a h.2.1) _ _ l⟩
 exact Qw (a:=λa=>a≠b) (λa h _=>k a h) (λt q p=>j (by rw[q,p])) m
def gx {b:Py}{a:Nat}{c d:Int}{e:PS}{f:PO}(h:b.heap[a]?=some (Qu c e d f)) :
  b.cell? (Pn a 0)=some (Ph c)/\b.cell? (Pn a 1)=some (PI e)/\b.cell? (Pn a 2)=some (Ph d)/\b.cell? (Pn a 3)=some f/\(∀g,b.frozen? (Pn a g)=false):=
 ⟨by rw[cell_of h];rfl,by rw[cell_of h];rfl,by rw[cell_of h];rfl,by rw[cell_of h];rfl,Rn h⟩
section
variable {d:Nat->Prop}{b:Py}{a:Tr}
include d b a
def QT.opens {f:Nat}(h:QT d b a f):∃e c,b.heap[f]?=some (Qu a.kd a.tx a.n e)/\b.ownsRow 0 22 1 e c.length (c.map Pm)/\P6 d b a.fS c:=by
 cases a with
 |mk m p o n=>
  rw[QT] at h;obtain⟨_,e,c,k,i,j⟩:=h;exact⟨e,c,k,i.1,P6.mono (λl g _=>g.1) _ _ j⟩
def P6.head {g:List Tr}{f:List Nat}(h:P6 d b (a::g) f):∃c e,f=c::e/\QT d b a c:=by
 obtain⟨c,e,i,j,_⟩:=h.parts;exact⟨c,e,i,j⟩
end
def Aj (e:Tr):Prop:=∀a d,e.fS=a::d->a.kd=15->∃c b,a.fS=c::b
def Zj (D:Nat)(g:Tr)(B:PO)(u:Py)(h:EV D u g B)(ah:Aj g) :
  PN 161 #[B] u λc I=>c=PY B/\EV D I (VT g) B/\Below D u I:=by
 have U:=h;obtain⟨aI,a1,H,rfl,m,l,P,o,E⟩:=h;obtain⟨_,_,_,aZ,ay⟩:=gx l;have HP:=Y m;have d:=P6.length _ _ E
 cases a:g.fS with
 |nil=>
  rw[a] at d;have r:H.length=0:=d;obtain⟨e,au,b⟩:=VG P;rw[r] at b;subst b;have n:=Y (YP (a:=g) (λt T i al c=>by rw[a] at c;cases c))
  clear l o d a r m ay;exact s9
 |cons t T=>
  rw[a] at d E;have r:0<H.length:=by rw[d];simp
  obtain⟨aD,au,b,s⟩:=UC P r;subst b;obtain⟨aJ,aR,v,ax⟩:=P6.head E;have aW:u.cell? (Pn aD 0)=some (Pm aJ):=by
   rw[s 0 r];simp[v]
  obtain⟨u1,R,p,aE,F⟩:=ax.opens;obtain⟨a6,_,_,aL,_⟩:=gx p;have aQ:(0:Int)<(H.length:Int):=Pv
  by_cases e:t.kd=15
  ·obtain⟨i,al,j⟩:=ah t T a e;rw[j] at F;have A:=P6.length _ _ F;have L:0<R.length:=by rw[A];simp
   obtain⟨ak,aX,af,z⟩:=UC aE L;subst af;obtain⟨ap,aT,C,aH⟩:=P6.head F;have aY:u.cell? (Pn ak 0)=some (Pm ap):=by
    rw[z 0 L];simp[C]
   obtain⟨u2,aU,w,_,_⟩:=aH.opens;obtain⟨aM,aO,_,_,_⟩:=gx w;have aK:(0:Int)<(R.length:Int):=Pv;have ad:(t.kd==15)=true:=km.2 e
   by_cases k:i.kd=18
   ·have ae:(i.kd==18)=true:=km.2 k
    by_cases b:i.tx=pZ
    ·have n:=Y (agU a j e k b);have X:(i.tx.toList==[117,115,101,32,115,116,114,105,99,116])=true:=WV (a:=pZ) rfl b;clear l o d a m p w s z A j e k b v C;go_enter func161,ntmps161;go_wp2;go_ret;exact⟨rfl,by rw[n.out];exact U.text _,RV.setCell (p:=(Pn aI 1)) HP.out _⟩
    ·have n:=Y (YP (a:=g) (λS M O N f q _ _ c=>by rw[a] at f;cases f;rw[j] at q;cases q;exact b c))
     have X:(i.tx.toList==[117,115,101,32,115,116,114,105,99,116])=false:=VX (a:=pZ) rfl b;clear l o d a m p w s z A j e k b v C;exact s9
   ·have ae:(i.kd==18)=false:=gT.2 k;have n:=Y (YP (a:=g) (λS M O N f q _ c=>by rw[a] at f;cases f;rw[j] at q;cases q;exact absurd c k))
    clear l o d a m p w s z A j e k v C;exact s9
  ·have ad:(t.kd==15)=false:=gT.2 e;have n:=Y (YP (a:=g) (λS M O N f _ c=>by rw[a] at f;cases f;exact absurd c e))
   clear l o d a m p s e v;exact s9
section
variable {a:gI}{d:Py}{c b:Nat}(h:QS a d c b)
include a d c b h
def QS.drew:QS a d.drew c b:=h.fQ RV.drew
def QS.alloc (e:Obj):QS a (d.alloc e) c b:=h.fQ QK
end
abbrev Uy:Obj:=.cells #[QB,Ph 0,Ph 0,Ph 0] 275
def lY {i:Py}{a:Nat}{j m k l:PO}{g:TypeId}{f:Nat×Nat}(h:i.heap[a]?=some (.cells #[j,m,k,l] g f))(b c d e:PO) :
  ((((i.setCell (Pn a 0) b).setCell (Pn a 1) c).setCell (Pn a 2) d).setCell (Pn a 3) e).heap[a]?=some (.cells #[b,c,d,e] g f):=by
 rw[gb (gb (gb (gb h b) c) d) e];rfl
def pk (a:Nat)(b:Py)(d e f g:PO):Prop:=
 b.cell? (Pn a 0)=some d/\b.cell? (Pn a 1)=some e/\b.cell? (Pn a 2)=some f/\b.cell? (Pn a 3)=some g/\(∀c,b.frozen? (Pn a c)=false)/\a<b.heap.size
def i8 {b:Nat}{g:Py}{c d e f:PO}(a:g.heap[b]?=some (.cells #[c,d,e,f] 275)):pk b g c d e f:=
 ⟨by rw[cell_of a];rfl,by rw[cell_of a];rfl,by rw[cell_of a];rfl,by rw[cell_of a];rfl,Rn a,fR a⟩
section
variable {d:gI}{a b:Py}{f e:Nat}(h:QS d a f e)
include d a b f e h
def MF (c:Below (a.alloc Uy).drew.heap.size (a.alloc Uy).drew b) :
  QS d b f e/\PG a b/\b.heap[a.heap.size]?=some Uy:=
 ⟨(h.alloc Uy).drew.fQ c,((RV.alloc Qq Uy).drew).trans (c.mono Qh),(c.block _ Qh).trans (Pz a Uy)⟩
def azz (c:Below ((a.alloc Uy).alloc Uy).drew.heap.size ((a.alloc Uy).alloc Uy).drew b) :
  QS d b f e/\PG a b/\b.heap[a.heap.size]?=some Uy/\b.heap[a.heap.size+1]?=some Uy:=by
 refine⟨((h.alloc Uy).alloc Uy).drew.fQ c,(((RV.alloc Qq Uy).alloc Qh Uy).drew).trans (c.mono SC),(c.block _ SC).trans ((gy (a.alloc Uy) Uy a.heap.size Qh).trans (Pz a Uy)),?_⟩;have:=Pz (a.alloc Uy) Uy;simp only[World.size_alloc] at this;exact(c.block _ Qh).trans this
end
section
variable {i:gI}{a g f:Py}{k j:Nat}{b c d e:PO}(h:QS i g k j)
include i a g f k j b c d e h
def wb (q:i.lo<=a.heap.size)(o:g.heap[a.heap.size]?=some Uy)(p:g.heap[a.heap.size+1]?=some Uy)(n:PG a g)(m:f=(((g.setCell (Pn (a.heap.size+1) 0) b).setCell (Pn (a.heap.size+1) 1) c).setCell (Pn (a.heap.size+1) 2) d).setCell (Pn (a.heap.size+1) 3) e) :
  QS i f k j/\PG a f/\pk a.heap.size f (QB) (Ph 0) (Ph 0) (Ph 0)/\pk (a.heap.size+1) f b c d e:=by
 have l:Below (a.heap.size+1) g f:=by
  rw[m];exact((((gi _ g).setCell (p:=(Pn (a.heap.size+1) 0)) Qq b).setCell (p:=(Pn (a.heap.size+1) 1)) Qq c).setCell (p:=(Pn (a.heap.size+1) 2)) Qq d).setCell (p:=(Pn (a.heap.size+1) 3)) Qq e
 refine⟨h.ap l Pv,n.trans (l.mono Pv),i8 ((l.block _ Pv).trans o),i8 ?_⟩;rw[m];exact lY p b c d e
def uo (m:g.heap[a.heap.size]?=some Uy)(l:PG a g)(n:f=g.alloc (.cells #[b,c,d,e] 275)) :
  QS i f k j/\PG a f/\pk a.heap.size f (QB) (Ph 0) (Ph 0) (Ph 0)/\pk g.heap.size f b c d e:=by
 subst n;exact⟨h.alloc _,l.alloc l.size _,i8 ((gy _ _ _ (fR m)).trans m),i8 (Pz _ _)⟩
end
def AP {b c:Py}{a:Nat}(d:PG b c)(h:b.heap.size<=a)(e f g i:PO) :
  PG b ((((c.setCell (Pn a 0) e).setCell (Pn a 1) f).setCell (Pn a 2) g).setCell (Pn a 3) i):=
 (((d.setCell (p:=(Pn a 0)) h _).setCell (p:=(Pn a 1)) h _).setCell (p:=(Pn a 2)) h _).setCell (p:=(Pn a 3)) h _
def TZ (m:gI)(i:Int)(e:PS)(w:Py)(l a:Nat)(h:QS m w l a)(au:e=fx m.l l)(b3:lF e=none) :
  PN 312 #[Qr m,Ph i] w λg k=>g=PY (.tuple #[qZ,PD false])/\PG w k:=by
 have r:=h;have p:=(h.alloc Uy).drew;have E:=((h.alloc Uy).alloc Uy).drew;have aI:Hid (∀W:Py,QS m W l a->(Instr.lookup 229 (.map (some m.mS)) (PI e) true).run prog W=.ok (.tuple #[.agg #[QB,Ph 0,Ph 0,Ph 0],PD false]) W):=λW j=>by
  have:=YM m e W j.base.hB;rw[b3] at this;exact this
 have d{G}(h:G:=by
 refine wpAnyH_ready (rs:=[5,10]) Qz Qh (AllReadyH.cons rfl (λK b=>?_) (AllReadyH.cons rfl (λK b=>?_) AllReadyH.nil))
 ·have d{G}(h:G:=by
  have d{G}(h:G:=by
  refine q7 ?_;refine Yd 11 λK b=>?_;go_simp;obtain⟨M,f⟩:=xE (q.alloc (.cells #[QB,Ph 0,Ph 0,Ph 0] 275));obtain⟨L,F,⟨bf,bh,be,bi,ax,aH⟩,⟨al,ap,s2,ay,aD,aE⟩⟩:=uo (b:=QB) (c:=Ph 0) (d:=Ph 0) (e:=Ph 0) c o.out n f;exact HO):=Pq h;exact zW):=Pq h;go_simp;exact xz
 ·have u{G}(h:G:=by
  have d{G}(h:G:=by
  refine Yd 11 λK b=>?_;go_simp;clear X O U ae ad af;obtain⟨M,f⟩:=xE ((((q.setCell (Pn (w.heap.size+1) 0) (QB)).setCell (Pn (w.heap.size+1) 1) (Ph 0)).setCell (Pn (w.heap.size+1) 2) (Ph 0)).setCell (Pn (w.heap.size+1) 3) (Ph 0));obtain⟨L,F,⟨bf,bh,be,bi,ax,aH⟩,⟨al,ap,s2,ay,aD,aE⟩⟩:=wb (b:=QB) (c:=Ph 0) (d:=Ph 0) (e:=Ph 0) c r.base.size o.out A.out n f;exact HO):=Pq h;exact zW):=Pq h;go_simp;exact EN):=Pq h;exact yi
section
variable (m:gI)(i:Int)(e:PS)(x:Sg)(w:Py)(l a:Nat)(h:QS m w l a)(au:e=fx m.l l)(b3:lF e=some x)
include m i e x w l a h au b3
def alg (aJ:(x.parts==i)=false) :
  PN 312 #[Qr m,Ph i] w λg k=>g=PY (.tuple #[qZ,PD false])/\PG w k:=by
 have d{G}(h:G:=by
 have d{G}(h:G:=by
 refine wpAnyH_ready (rs:=[5,10]) Qz Qh (AllReadyH.cons rfl (λK b=>?_) (AllReadyH.cons rfl (λK b=>?_) AllReadyH.nil))
 ·have d{G}(h:G:=by
  have d{G}(h:G:=by
  refine q7 ?_;refine Yd 11 λK b=>?_;go_simp;obtain⟨M,f⟩:=xE (q.alloc (.cells #[PI x.tx,Ph x.kd,Ph x.parts,Ph x.str] 275));obtain⟨L,F,⟨bf,bh,be,bi,ax,aH⟩,⟨al,ap,s2,ay,aD,aE⟩⟩:=uo (b:=PI x.tx) (c:=Ph x.kd) (d:=Ph x.parts) (e:=Ph x.str) c o.out n f;exact Gu):=Pq h;exact Em):=Pq h;go_simp;exact xz
 ·have d{G}(h:G:=by
  obtain⟨L,F,⟨bf,bh,be,bi,ax,aH⟩,⟨al,ap,s2,ay,aD,aE⟩⟩:=wb (b:=PI x.tx) (c:=Ph x.kd) (d:=Ph x.parts) (e:=Ph x.str) c r.base.size o.out A.out n f;exact Gu):=Pq h;exact Jk):=Pq h;exact yi):=Pq h;exact GC
def Lo (aJ:(x.parts==i)=true) :
  PN 312 #[Qr m,Ph i] w λg k=>g=PY (.tuple #[nu x,PD true])/\PG w k:=by
 have d{G}(h:G:=by
 have d{G}(h:G:=by
 refine wpAnyH_ready (rs:=[5,10]) Qz Qh (AllReadyH.cons rfl (λK b=>?_) (AllReadyH.cons rfl (λK b=>?_) AllReadyH.nil))
 ·have d{G}(h:G:=by
  have d{G}(h:G:=by
  refine q7 ?_;refine Yd 11 λK b=>?_;go_simp;obtain⟨M,f⟩:=xE (q.alloc (.cells #[PI x.tx,Ph x.kd,Ph x.parts,Ph x.str] 275));obtain⟨L,F,⟨bf,bh,be,bi,ap,aE⟩,⟨N,al,s2,ax,ay,aD⟩⟩:=uo (b:=PI x.tx) (c:=Ph x.kd) (d:=Ph x.parts) (e:=Ph x.str) c o.out n f;exact z6):=Pq h;exact Em):=Pq h;go_simp;exact xz
 ·have d{G}(h:G:=by
  obtain⟨L,F,⟨bf,bh,be,bi,ap,aE⟩,⟨N,al,s2,ax,ay,aD⟩⟩:=wb (b:=PI x.tx) (c:=Ph x.kd) (d:=Ph x.parts) (e:=Ph x.str) c r.base.size o.out A.out n f;exact z6):=Pq h;exact Jk):=Pq h;exact yi):=Pq h;exact GC
end
def XJ (a:gI)(c:Int)(e:Py)(b g:Nat)(h:QS a e b g) :
  PN 312 #[Qr a,Ph c] e λj i=>j=PY (.tuple #[sr (iG c (fx a.l b)),PD (iG c (fx a.l b)).isSome])/\PG e i:=by
 cases d:lF (fx a.l b) with
 |none=>
  have:iG c (fx a.l b)=none:=by simp[iG,d]
  rw[this];exact TZ a c _ e b g h rfl d
 |some x=>
  cases f:x.parts==c with
  |false=>
   have:iG c (fx a.l b)=none:=by simp[iG,d,Option.filter,f]
   rw[this];exact alg a c _ x e b g h rfl d f
  |true=>
   have:iG c (fx a.l b)=some x:=by simp[iG,d,Option.filter,f]
   rw[this];exact Lo a c _ x e b g h rfl d f
structure FC (c:gI)(F:Ut):Prop where
 st:hC c 160 NV F.st
 vl:hC c 224 NV F.vl
 pr:∀b:Int,2<=b->b<=8->∀w d i r,F.pr b d i=r->r≠.out->QS c w i d->PN 280 #[Qr c,Ph b] w (Rt c w d (NV w.heap.size) r)
 sg:hC c 311 NV F.sg
def LC:WU 160:=λ_ _=>by kernel_rfl
def aIc:WU 224:=λ_ _=>by kernel_rfl
def aId:WU 311:=λ_ _=>by kernel_rfl
section
variable {a:gI}{d:Ut}(f:FC a d)(c:Py)(b e:Nat)(h:QS a c e b)
include a d f c b e h
def WM (g:QJ a.l d.vl b e≠.out):PN 159 #[Qr a,VW a.R 224] c (Rt a c b (NV c.heap.size) (QJ a.l d.vl b e)):=
 w6 a 224 d.vl f.vl aIc c b e _ rfl g h
def oa (g:QJ a.l d.st b e≠.out):PN 159 #[Qr a,VW a.R 160] c (Rt a c b (NV c.heap.size) (QJ a.l d.st b e)):=
 w6 a 160 d.st f.st LC c b e _ rfl g h
def Sp (g:QJ a.l d.sg b e≠.out):PN 159 #[Qr a,VW a.R 311] c (Rt a c b (NV c.heap.size) (QJ a.l d.sg b e)):=
 w6 a 311 d.sg f.sg aId c b e _ rfl g h
end
def gj {α β:Type}(x:α)(b:Nat)(a:α->Nat->PR β):(PR.ok x b).bind a=a x b:=rfl
def Qy {α β:Type}(a:Int)(b:Nat)(c:α->Nat->PR β):(PR.ga a b:PR α).bind c=.ga a b:=rfl
def wW {α β:Type}(a:α->Nat->PR β):(PR.out:PR α).bind a=.out:=rfl
abbrev gz (a:Nat):Nat->Prop:=λb=>a<=b
def Uc {a:gI}{b:Nat}{c d:Py}{f:Tr}{e:Nat}(h:QT (gz b) c f e)(i:Ap a.R c.heap.size c d)(g:a.R<b):QT (gz b) d f e:=
 QT.fQ (Uz.YT i g λ_ h=>h) _ _ h
def Ul {b a:Nat}{e:Py}{d:Tr}{c:Nat}(h:QT (gz b) e d c)(f:a<=b):QT (gz a) e d c:=QT.mono (λ_ h _=>gr f h) _ _ h
def wQ {f:gI}{b:Nat}{a d:Py}{j k:Tr}{g i:Nat}(h:QT (gz b) a j g)(n:Ap f.R a.heap.size a d)(o:f.R<b)(m:b<=a.heap.size)(l:QT (gz a.heap.size) d k i):P6 (gz b) d [j,k] [g,i]:=
 P6.pair (M:=a.heap.size) (QT.fQ (I:=λe=>gz b e/\e<a.heap.size) (Uz.YT n o λ_ h=>h.1) _ _ (QT.mono (λ_ c e=>⟨c,e⟩) _ _ h)) (QT.mono (λ_ c _=>⟨gr m c,c⟩) _ _ l)
section
variable {a:gI}{w W:Py}{j i:Nat}{g:List Tr}
include a w W j i g
def made {k:List Nat}(q:QS a W j i)(d:Ap a.R w.heap.size w W)(p:P6 (gz w.heap.size) W g k)(r:k.length<=maxLen)(c:Array PO)(o:c.toList=k.map Pm)(b:Nat)(s:k.length=b)(e:Int)(f:PS)(l:Nat)(n:l=W.heap.size+1) :
  EV w.heap.size ((W.alloc (.cells c 22)).alloc (Qu e f 0 (.slice (some (Pn W.heap.size 0)) b b))) (.mk e f 0 g) (Pm l) /\
  QS a ((W.alloc (.cells c 22)).alloc (Qu e f 0 (.slice (some (Pn W.heap.size 0)) b b))) j i /\
  Ap a.R w.heap.size w ((W.alloc (.cells c 22)).alloc (Qu e f 0 (.slice (some (Pn W.heap.size 0)) b b))):=by
 subst s;have m:l=(W.alloc (.cells c 22)).heap.size:=by rw[n];simp
 rw[m];exact⟨EV.new (KV.row p d.size r c o) (by simp;have:=d.size;omega) e f 0,(q.alloc _).alloc _,(d.alloc d.size _).alloc (by simp;have:=d.size;omega) _⟩
def ox {d:PO}(m:QS a W j i)(e:Ap a.R w.heap.size w W)(l:KV w.heap.size W g d)(b:Int)(c:PS)(f:Nat)(k:f=W.heap.size) :
  EV w.heap.size (W.alloc (Qu b c 0 d)) (.mk b c 0 g) (Pm f)/\QS a (W.alloc (Qu b c 0 d)) j i/\Ap a.R w.heap.size w (W.alloc (Qu b c 0 d)):=by
 subst k;exact⟨EV.new l e.size b c 0,m.alloc _,e.alloc e.size _⟩
end
def yu {a:gI}{k:Ut}(v:FC a k):hC a 155 NV (VA a.l k):=by
 have P:=RY a.R 224;intro i g r S l t h;have U:=Ap.refl a.R i.heap.size i;have D:=Y h.kP;unfold VA at l;have e:=Y l;have F:=Y t;clear l t;go_enter func155,ntmps155
 cases T:Qx a.l TT r with
 |out=>
  exact TA
 |ga A B=>
  have c:=Qp a TT i r g h PK;exact mu
 |ok M p=>
  have c:=Qp a TT i r g h PK;have f{G}(h:G:=by
  have f{G}(h:G:=by
  have w:=b;clear h
  cases T:QJ a.l k.vl g p with
  |out=>
   exact TA
  |ga A B=>
   have c:=WM v u g p w (by rw[T];nofun)
   exact qx
  |ok N m=>
   have c:=WM v u g p w (by rw[T];nofun)
   have f{G}(h:G:=by
   intro j C o;obtain⟨⟨X,rfl,E,rfl,I⟩,b,d⟩:=o;have n:=q.next d;have z:=b;have s:=Ul I q.size
   cases T:Qx a.l U1 m with
   |out=>
    exact TA
   |ga A B=>
    have c:=Qp a U1 C m g z PK;exact qU
   |ok R O=>
    have c:=Qp a U1 C m g z PK;have f{G}(h:G:=by
    intro j L o;obtain⟨⟨ad,rfl,rfl⟩,b,d⟩:=o;have H:=n.next d;replace s:=Uc s d D.out;go_wp2;go_ret;exact UM e.out.symm ⟨E,rfl,s⟩ b H):=Pq h;exact Y4):=Pq h;exact Y4):=Pq h;exact oO):=Pq h;exact Y4
def io:(prog.info? 22).map (λa=>(a.zero,a.size,a.bytes))=some (some Rz,1,8):=by kernel_rfl
section
variable {d:Nat}{e:Py}{c:List Tr}{b:PO}(h:KV d e c b)
include d e c b h
def KV.shape:∃f i,b=.slice f c.length i:=by
 obtain⟨j,g,a⟩:=h;rw[<-P6.length _ _ a];exact VG g
def KV.own (a:Nat)(g:b.ownBlock=some a):a<e.heap.size/\d<=a:=by
 obtain⟨i,f,_⟩:=h;exact Qm f a g
end
def KV.mono {b B':Nat}{e:Py}{c:List Tr}{d:PO}(h:KV b e c d)(j:B'<=b):KV B' e c d:=by
 obtain⟨i,a,g⟩:=h;refine⟨i,⟨a.1,?_⟩,P6.mono (λf h _=>⟨by omega,h.2⟩) _ _ g⟩;exact IE
def Bw {f:Nat}{e i:Py}{n p:List Tr}{g:PO}{m j:List Nat}{d o l:Nat}{r:Obj}(s:P6 (λa=>f<=a/\g.ownBlock≠some a) e (n++p) (m++j))(A:i.ownsRow f 22 1 (.slice (some (Pn d 0)) l o) l ((m++j).map Pm))(u:l=(m++j).length)(v:(e.alloc r).grownBy i g.ownBlock)(k:g.ownBlock=some d\/d=e.heap.size+1):KV f i (n++p) (.slice (some (Pn d 0)) l o):=by
 subst u;refine⟨m++j,A,?_⟩;have t:Uz (λa=>f<=a/\a≠d/\g.ownBlock≠some a) e i:=by
  intro a b q;have z:PG e (e.alloc r):=QK;rw[<-z.block a q];exact v.block a SC (λc=>b.2.2 c.symm)
 have w:=P6.mono (J:=λa=>f<=a/\a≠d/\g.ownBlock≠some a) (λa b q=>⟨b.1,λc=>by (rcases k with k|k);(exact b.2 (by rw[k,c]));omega,b.2⟩) _ _ s
 exact P6.mono (λa b _=>⟨b.1,λc=>by simp only[Value.ownBlock,he] at c;exact b.2.1 c.symm⟩) _ _ (P6.fQ t _ _ w)
def pc (a:gI)(c:Py):Nat:=match c.cell? (Pn a.R 1) with|some (.int _ b)=>b.toNat|_=>0
def VL {a:gI}{c:Py}{b d:Nat}(h:QS a c b d):pc a c=b:=by unfold pc;rw[h.c1];rfl
def TF (c:Py)(e H:Nat)(h:c.heap.size=H):∀b d,[Pm e][b]?=some d->(c.alloc (.cells #[Pm e] 22)).cell? (((Pn H 0):Addr).add b)=some d:=by
 intro b d a
 match b,a with
 |0,a=>
  simp only[mx,he] at a;subst a;subst h;rw[show ((Pn c.heap.size 0):Addr).add 0=(Pn c.heap.size 0) from rfl,cell_of (Pz _ _)];rfl
 |b+1,a=>simp at a
def g8 (c:Nat):∀b ∈ [Pm c],b.oneCell'=true:=by
 intro b a;simp only[gn] at a;subst a;rfl
def yI {m:gI}{b:Nat}{c g:Py}{i:List Tr}{f:PO}{q:Tr}{p:Nat}(j:KV b c i f)(r:b<=c.heap.size)(l:Ap m.R c.heap.size c g)(n:m.R<b)(t:QT (gz c.heap.size) g q p) :
  ∃e,g.ownsRow b 22 1 f e.length (e.map Pm)/\P6 (λa=>b<=a/\f.ownBlock≠some a) g i e/\P6 (λa=>b<=a/\f.ownBlock≠some a) g (i++[q]) (e++[p]):=by
 have w:=j.own;obtain⟨e,k,s⟩:=j;have o:=P6.fQ (I:=λa=>(b<=a/\f.ownBlock≠some a)/\a<c.heap.size) (Uz.YT l n λ_ h=>h.1.1) _ _ (P6.mono (λ_ d u=>⟨d,u⟩) _ _ s);refine⟨e,Qw (a:=λa=>b<=a) (Uz.YT l n λ_ h=>h) (λu v=>(Qm k u v).2) k,P6.mono (λa d _=>d.1) _ _ o,P6.append (M:=c.heap.size) _ _ (P6.cons ?_ P6.nil) o⟩;exact QT.mono (λa d _=>⟨⟨gr r d,λu=>by have:=(w a u).1;have:c.heap.size<=a:=d;omega⟩,d⟩) _ _ t
def SI {g:gI}{s:Ut}(ap:FC g s)(au:∃k,ka g.l k s):hC g 149 EV (Rk g.l s):=by
 have bq:=RY g.R 160;intro l n R X N al h;have bn:=h.base.ends;have aQ:=Y h.base.len;have f{G}(h:G:=by
 have U:=Ap.refl g.R l.heap.size l;have A:=Y h.kP;have aU:=Y au;unfold Rk at N;have e:=Y N;have F:=Y al;clear N al au;go_enter func149,ntmps149
 cases T:Qx g.l Uh R with
 |out=>
  exact TA
 |ga aT a7=>
  have c:=Qp g Uh l R n h PK;exact mu
 |ok bm aM=>
  have c:=Qp g Uh l R n h PK;have f{G}(h:G:=by
  have f{G}(h:G:=by
  have aO:=b;clear d h;go_wp2_with fail
  go_loopw [3] (λa wr=>∃k i m,(RZ g.l s n k i m).bind (λO i2=>PR.ok (.mk 6 PE 0 O) i2)=X/\QS g wr m n/\Ap g.R l.heap.size l wr/\KV l.heap.size wr i a/\i.length<=m) (λ_ wr=>g.l.length - pc g wr)
  case atStart=>exact⟨s.fuel,[],aM,e.out,aO,q,KV.nil _ _,ge _⟩
  case round=>
   obtain⟨k,i,m,t,b,ad,S,w⟩:=hrel
   cases k with
   |zero=>exact absurd t.symm F.out
   |succ k=>
    have bo:=Pj aQ;have aZ:=b.lt;have ax:=b;have a8:=b;have aE:=Y w
    by_cases C:fx g.l m=Wn
    ·have a:Hid (PR.ok (.mk 6 PE 0 i) (m+1)=X):=by
      unfold RZ at t;rw[fY C,gj] at t;exact t
     have c:=Ua g Wn wr m n b C PK;obtain⟨M,r,rfl⟩:=S.shape;clear t w C;go_wp2_with fail;refine cm c ?_;rintro j v ⟨rfl,L,p⟩;have E:=ad.next p;have z:=L;have B:=KV.fQ S p A.out;have c:=QO 6 PE (.slice M i.length r) v ⟨_,_,_,rfl⟩;have f{G}(h:G:=by
     obtain⟨D,H,I⟩:=ox z E B 6 PE _ rfl;exact UM a.out.symm D H I):=Pq h;exact l0
    ·have a:Hid ((QJ g.l s.st n m).bind (λp D=>(RZ g.l s n k (i++[p]) D).bind λO i2=>PR.ok (.mk 6 PE 0 O) i2)=X):=by
      unfold RZ at t;rw[fT C] at t;rw[<-t]
      cases QJ g.l s.st n m <;> rfl
     have c:=UL g Wn wr m n b C;clear t w C
     cases T:QJ g.l s.st n m with
     |out=>
      exact vx
     |ga aT a7=>
      have r:=Y T;rw[T] at a;simp only[Qy] at a;clear T;have f{G}(h:G:=by
      have c:=oa ap v n m z (by rw[r.out];nofun)
      exact Aa):=Pq h;exact rk
     |ok p P=>
      have r:=Y T;rw[T] at a;simp only[gj] at a;clear T;have f{G}(h:G:=by
      have B:=KV.fQ S (Ap.of H) A.out;have c:=oa ap v n m z (by rw[r.out];nofun)
      have f{G}(h:G:=by
      have br:m<P:=by
       obtain⟨L,D⟩:=Pj aU;exact((SS (a:=g.l) (b:=n) (D.st (n+1) m aZ)).2 p P r.out).1
      have f{G}(h:G:=by
      go_roundw
      case rel=>exact⟨k,i++[p],P,a.out,D,L,aD,by simp;omega⟩
      case measure=>rw[VL D,VL a8];omega):=Pq h;exact BV):=Pq h;exact Bv):=Pq h;exact rk):=Pq h;exact oO):=Pq h;exact Y4):=Pq h;exact p2
def pd (b:gI)(i:Nat)(e:Nat->Bool):Prop:=
 ∀a f c,QS b a c f->PN i #[Qr b] a λg d=>g=PY (PD (e c))/\PG a d
def LV (c:Nat)(d:Py)(a:List Tr)(b:PO):Prop:=KV c d a b/\(a=[]->b=.slice none 0 0)/\a.length<=3001
def Zt {a:gI}(al af:Nat)(begins:Nat->Bool)(B:Nat->Nat->PR Tr)(C shut:PS)(bY:pd a al begins)(o:hC a af NV B)(b2:WU al)(b3:WU af)(be:C≠PE)(bb:shut≠PE)(bh:∀g s w k,s<a.l.length->B g s=.ok w k->s<k)(i:Nat)(m:Py)(g s:Nat)(I:PR (List Tr))(ah:XR a.l C shut begins (B g) i s=I)(a7:I≠.out)(h:QS a m s g) :
  PN 227 #[Qr a,PI C,PI shut,VW a.R al,VW a.R af] m (Rt a m g (LV m.heap.size) I):=by
 have bG:=Y h.base.len;have f{G}(h:G:=by
 have U:=Ap.refl a.R m.heap.size m;have z:=Y h.kP;have HP:=o;have bf:=Y be;have bA:=Y bb;have bX:=Y bh;unfold XR at ah;have e:=Y ah;have F:=Y a7;clear ah a7 be bb bh;unfold VW;go_enter func227,ntmps227
 cases T:Qx a.l C s with
 |out=>
  exact TA
 |ga aM aO=>
  have c:=Y (Qp a C m s g h bf.out);rw[T] at c e;simp only[Qy] at e;clear T;go_wp2_with fail;refine XO ?_;exact vI
 |ok b5 O=>
  have c:=Y (Qp a C m s g h bf.out);rw[T] at c e;simp only[gj] at e;clear T;go_wp2_with fail;refine XO ?_;have f{G}(h:G:=by
  have ak:=b;clear d h
  by_cases n:fx a.l O=shut
  ·have c:=Y (Ua a shut u O g ak n bA.out);rw[fY n] at e;clear n;go_wp2_with fail;refine XO ?_;rintro j bI ⟨rfl,p,l⟩;have A:=q.next l;have v:=p;go_wp2;go_ret;exact UM e.out.symm ⟨KV.nil _ _,λ_=>rfl,by simp⟩ v A
  ·have c:=Y (UL a shut u O g ak n);rw[fT n] at e;clear n;go_wp2_with fail;refine XO ?_;rintro j bI ⟨rfl,aZ⟩;have A:=q.next (Ap.of aZ);have v:=ak.fQ aZ;go_wp2_with fail
   go_loopw [11] (λl wr=>∃i p k,UD a.l shut begins (B g) i p k=I/\QS a wr k g/\Ap a.R m.heap.size m wr/\KV m.heap.size wr p l/\p.length<=k) (λ_ wr=>a.l.length - pc a wr)
   case atStart=>exact⟨i,[],O,e.out,v,A,KV.nil _ _,ge _⟩
   case round=>
    obtain⟨i,p,k,N,b,bF,P,aK⟩:=hrel
    cases i with
    |zero=>exact absurd N.symm F.out
    |succ i=>
     have b6:=Pj bG;have bZ:=b.lt;have v:=b;have b0:=b;have A:=bF;have b1:=Y aK;unfold UD at N;have D:=Y N;clear N aK;obtain⟨b7,b4,rfl⟩:=P.shape
     by_cases E:p.length=8
     ·
      cases ad:begins k with
      |true=>
       rw[fY ⟨E,ad⟩] at D;have f{G}(h:G:=by
       have c:=Y (V8 a 4 aL k g (v.fQ X));go_wp2_with fail;refine XO ?_;rintro j L ⟨rfl,a8⟩;exact⟨rfl,Ry D.out.symm (ae.next (Ap.of a8))⟩):=Pq h;exact F6
      |false=>
       rw[fT (by rw[ad];rintro⟨_,H⟩;cases H)] at D
       have f{G}(h:G:=by
       have a8:=v.fQ X;have ba:=KV.fQ P (Ap.of X) z.out;clear bz;have f{G}(h:G:=by
       cases T:B g k with
       |out=>
        exact yw
       |ga aM aO=>
        have c:Hid _:=HP aL g k _ rfl (by rw[T];nofun) a8
        have f{G}(h:G:=by
        exact⟨rfl,Ry l.out.symm (ae.next d)⟩):=Pq h;exact ur
       |ok w r=>
        have c:Hid _:=HP aL g k _ rfl (by rw[T];nofun) a8
        have f{G}(h:G:=by
        have aQ:=ae.next d;have bB:=b;have bE:=Y (yI ba ae.size d z.out bD);have bH:=KV.fQ ba d z.out;exact Ds):=Pq h;exact EU):=Pq h;exact JJ):=Pq h;exact F6
     ·rw[fT (λH=>E H.1)] at D;have bz:((p.length:Int)==8)=false:=gT.2 Pv;clear E;have f{G}(h:G:=by
      cases T:B g k with
      |out=>
       exact yw
      |ga aM aO=>
       have c:Hid _:=HP wr g k _ rfl (by rw[T];nofun) v
       have f{G}(h:G:=by
       exact⟨rfl,Ry l.out.symm (A.next d)⟩):=Pq h;exact ur
      |ok w r=>
       have c:Hid _:=HP wr g k _ rfl (by rw[T];nofun) v
       have f{G}(h:G:=by
       have aQ:=A.next d;have bB:=b;have bE:=Y (yI P A.size d z.out bD);have bH:=KV.fQ P d z.out;exact Ds):=Pq h;exact EU):=Pq h;exact JJ):=Pq h;exact oO):=Pq h;exact p2
def o6 (b:Ut):Prop:=∀c d a e,b.st c d=.ok a e->a.kd=15->∃g f,a.fS=g::f
def Ey {f:List Tk}{b:Nat->Nat->PR Tr}{a c d:Nat}{e:Tr}(h:QJ f b a c=.ok e d):b (a+1) c=.ok e d:=by
 unfold QJ at h
 split at h
 ·
  cases h
 ·exact h
section
variable {d:List Tk}{a:Ut}(n:o6 a)
include d a n
def OI {o:Nat}:∀j g i f k,(∀c ∈ g,c.kd=15->∃m l,c.fS=m::l)->RZ d a o j g i=.ok f k->∀c ∈ f,c.kd=15->∃m l,c.fS=m::l:=by
 intro j
 induction j with
 |zero=>intro g i f k _ h;cases h
 |succ j q=>
  intro g i f k p h;unfold RZ at h
  split at h
  ·
   cases h;exact p
  ·
   cases e:QJ d a.st o i with
   |out=>rw[e] at h;cases h
   |ga b r=>rw[e] at h;cases h
   |ok c s=>
    rw[e,gj] at h;refine q _ _ _ _ (λr b=>?_) h
    rcases gB.1 b with b|b
    ·exact p r b
    ·rw[gn] at b;subst b;exact n _ _ _ _ (Ey e)
def Ya {e f q:Nat}{i:Tr}(h:Rk d a e f=.ok i q):Aj i:=by
 unfold Rk at h
 cases c:Qx d Uh f with
 |out=>rw[c] at h;cases h
 |ga p s=>rw[c] at h;cases h
 |ok x o=>
  rw[c,gj] at h
  cases b:RZ d a e a.fuel [] o with
  |out=>rw[b] at h;cases h
  |ga p s=>rw[b] at h;cases h
  |ok m u=>
   rw[b,gj] at h;cases h;intro g t j r;have k:m=g::t:=j;exact OI n _ _ _ _ _ (λ_ l=>absurd l Qh) b g (by rw[k];simp) r
end
def tZ:WU 228:=λ_ _=>by kernel_rfl
def CW:WU 281:=λ_ _=>by kernel_rfl
def Av:WU 229:=λ_ _=>by kernel_rfl
def ti (a:gI):pd a 228 (gX a.l):=λd b c h=>yo a d c b h
section
variable {a:gI}
include a
def avn {g:Ut}(n:FC a g):hC a 349 NV (oN a.l g):=by
 have z:=RY a.R 224;intro f k l A i m h;have U:=Ap.refl a.R f.heap.size f;unfold oN at i;have e:=Y i;have q:=Y m;clear i m;go_enter func349,ntmps349
 cases b:QJ a.l g.vl k l with
 |out=>
  rw[b] at e;exact absurd e.out.symm q.out
 |ga p r=>
  have c:=WM n f k l h (by rw[b];nofun)
  rw[b] at c e;clear b;go_wp2_with fail;refine cm c ?_;exact vI
 |ok w v=>
  have c:=WM n f k l h (by rw[b];nofun)
  rw[b] at c e;clear b;go_wp2_with fail;refine cm c ?_;intro j C o;obtain⟨⟨B,rfl,u,rfl,t⟩,p,d⟩:=o;have r:=U.next d;have s:=Ul t U.size;clear h;go_wp2;go_ret;exact UM e.out.symm ⟨u,rfl,s⟩ p r
def BE:hC a 281 NV (λ_=>V5 a.l):=by
 intro i n k v g l h;have U:=Ap.refl a.R i.heap.size i
 dsimp only at g
 unfold V5 at g;have e:=Y g;have F:=Y l;clear g l;go_enter func281,ntmps281
 cases T:gK a.l k with
 |out=>
  exact TA
 |ga b f=>
  have c:=gS a i k n h;exact mu
 |ok m t=>
  have c:=gS a i k n h;have f{G}(h:G:=by
  have f{G}(h:G:=by
  clear h;have c:=QO 23 m RF u ⟨_,_,_,rfl⟩;have f{G}(h:G:=by
  obtain⟨p,r,s⟩:=ox b q (KV.nil _ _) 23 m _ rfl;exact UM e.out.symm p.nv r s):=Pq h;exact l0):=Pq h;exact oO):=Pq h;exact Y4
def Il {k:Ut}(v:FC a k):hC a 229 NV (Yj a.l k):=by
 have S:=RY a.R 224;intro i g s ad l t h;have U:=Ap.refl a.R i.heap.size i;unfold Yj at l;have e:=Y l;have F:=Y t;clear l t;go_enter func229,ntmps229
 cases T:gK a.l s with
 |out=>
  exact TA
 |ga C D=>
  have c:=gS a i s g h;exact mu
 |ok B r=>
  have c:=gS a i s g h;have f{G}(h:G:=by
  have f{G}(h:G:=by
  have w:=b;clear h
  cases T:Qx a.l ss r with
  |out=>
   exact TA
  |ga C D=>
   have c:=Qp a ss u r g w PK;exact qx
  |ok P p=>
   have c:=Qp a ss u r g w PK;have f{G}(h:G:=by
   intro j E o;obtain⟨⟨ae,rfl,rfl⟩,b,d⟩:=o;have n:=q.next d;have z:=b
   cases T:QJ a.l k.vl g p with
   |out=>
    exact TA
   |ga C D=>
    have c:=WM v E g p z (by rw[T];nofun)
    exact qU
   |ok X R=>
    have c:=WM v E g p z (by rw[T];nofun)
    have f{G}(h:G:=by
    intro j m o;obtain⟨⟨af,rfl,A,rfl,N⟩,b,d⟩:=o;have M:=n.next d;have O:=Ul N n.size;have c:=QO 39 B (.slice (some (Pn m.heap.size 0)) 1 1) (m.alloc (.cells #[Pm A] 22)) ⟨_,_,_,rfl⟩;have f{G}(h:G:=by
    obtain⟨H,I,L⟩:=made b M (P6.cons O P6.nil) (by simp[maxLen]) #[Pm A] rfl 1 rfl 39 B (m.heap.size+1) rfl;exact UM e.out.symm H.nv I L):=Pq h;exact l0):=Pq h;exact Y4):=Pq h;exact Y4):=Pq h;exact oO):=Pq h;exact Y4
def En (e:Ends a.l)(g b:Nat)(d:Tr)(c:Nat)(f:b<a.l.length)(h:(λ(_:Nat)=>V5 a.l) g b=.ok d c):b<c:=((KB (g:=True) e f).2 d c h).1
def GT {d:Ut}{k:Nat}(j:ka a.l k d)(f:Ends a.l)(i b:Nat)(e:Tr)(c:Nat)(g:b<a.l.length)(h:Yj a.l d i b=.ok e c):b<c:=((EH (g:=False) f j g (λh=>h.elim)).2 e c h).1
def La {d:Ut}{j:Nat}(i:ka a.l j d)(g b:Nat)(e:Tr)(c:Nat)(f:b<a.l.length)(h:oN a.l d g b=.ok e c):b<c:=((xQ (g:=False) i f (λh=>h.elim)).2 e c h).1
def RK {b:Ut}:hC a 226 NV (λ_=>Uu a.l b):=by
 have E:=RY a.R 228;have C:=RY a.R 281;intro i m k H g l h;have n:=h.base.ends;have U:=Ap.refl a.R i.heap.size i
 dsimp only at g
 unfold Uu at g;have e:=Y g;have F:=Y l;clear g l;go_enter func226,ntmps226
 cases T:XR a.l TT U1 (gX a.l) (V5 a.l) b.fuel k with
 |out=>
  exact TA
 |ga f p=>
  have c:=Zt 228 281 (gX a.l) (λ_=>V5 a.l) TT U1 (ti a) BE tZ CW PK PK (En n) b.fuel i m k _ rfl (by rw[T];nofun) h
  exact mu
 |ok u D=>
  have c:=Zt 228 281 (gX a.l) (λ_=>V5 a.l) TT U1 (ti a) BE tZ CW PK PK (En n) b.fuel i m k _ rfl (by rw[T];nofun) h
  have f{G}(h:G:=by
  intro j B o;obtain⟨⟨I,rfl,z⟩,q,d⟩:=o;have w:=U.next d;have p:=KV.mono z.1 U.size;clear h;obtain⟨A,r,rfl⟩:=p.shape;have c:=QO 40 PE (.slice A u.length r) B ⟨_,_,_,rfl⟩;have f{G}(h:G:=by
  obtain⟨s,t,v⟩:=ox q w p 40 PE _ rfl;exact UM e.out.symm s.nv t v):=Pq h;exact l0):=Pq h;exact Y4
def Q4 {b:Ut}(p:FC a b)(g:∃s,ka a.l s b):hC a 156 NV (Xb a.l b):=by
 have L:=RY a.R 228;have H:=RY a.R 229;obtain⟨s,g⟩:=g;intro i l m M k n h;have q:=h.base.ends;have U:=Ap.refl a.R i.heap.size i;unfold Xb at k;have e:=Y k;have F:=Y n;clear k n;go_enter func156,ntmps156
 cases T:XR a.l Uh Wn (gX a.l) (Yj a.l b l) b.fuel m with
 |out=>
  exact TA
 |ga f r=>
  have c:=Zt 228 229 (gX a.l) (Yj a.l b) Uh Wn (ti a) (Il p) tZ Av PK PK (GT g q) b.fuel i l m _ rfl (by rw[T];nofun) h
  exact mu
 |ok z I=>
  have c:=Zt 228 229 (gX a.l) (Yj a.l b) Uh Wn (ti a) (Il p) tZ Av PK PK (GT g q) b.fuel i l m _ rfl (by rw[T];nofun) h
  have f{G}(h:G:=by
  intro j E o;obtain⟨⟨N,rfl,C⟩,t,d⟩:=o;have B:=U.next d;have r:=KV.mono C.1 U.size;clear h;obtain⟨D,u,rfl⟩:=r.shape;have c:=QO 38 PE (.slice D z.length u) E ⟨_,_,_,rfl⟩;have f{G}(h:G:=by
  obtain⟨v,w,A⟩:=ox t B r 38 PE _ rfl;exact UM e.out.symm v.nv w A):=Pq h;exact l0):=Pq h;exact Y4
def mg:hC a 150 NV (λ_ g=>(Qx a.l SH g).bind λ_ b=>.ok (.mk 16 PE 0 []) b):=by
 intro i m g v k l h;have U:=Ap.refl a.R i.heap.size i
 dsimp only at k
 have e:=Y k;have F:=Y l;clear k l;go_enter func150,ntmps150
 cases T:Qx a.l SH g with
 |out=>
  exact TA
 |ga b f=>
  have c:=Qp a SH i g m h PK;exact mu
 |ok t s=>
  have c:=Qp a SH i g m h PK;have f{G}(h:G:=by
  have f{G}(h:G:=by
  clear h;have c:=QO 16 PE RF u ⟨_,_,_,rfl⟩;have f{G}(h:G:=by
  obtain⟨n,p,r⟩:=ox b q (KV.nil _ _) 16 PE _ rfl;exact UM e.out.symm n.nv p r):=Pq h;exact l0):=Pq h;exact oO):=Pq h;exact Y4
end
structure Open (B:Nat)(w:Py)(t:Tr)(p:Nat)(u:PO)(ps:List Nat):Prop where
 low:B<=p
 gG:w.heap[p]?=some (Qu t.kd t.tx t.n u)
 row:w.ownsRow B 22 1 u ps.length (ps.map Pm)
 own:u.ownBlock≠some p
 fS:P6 (λb=>B<=b/\b≠p/\u.ownBlock≠some b) w t.fS ps
def EV.opens {d:Nat}{g:Py}{e:Tr}{f:PO}(h:EV d g e f):∃a c b,f=Pm a/\Open d g e a c b:=by
 obtain⟨a,c,b,rfl,m,i,k,j,l⟩:=h;exact⟨a,c,b,rfl,m,i,k,j,l⟩
def Open.ev {b:Nat}{f:Py}{d:Tr}{a:Nat}{e:PO}{c:List Nat}(h:Open b f d a e c):EV b f d (Pm a):=⟨a,e,c,rfl,h.low,h.gG,h.row,h.own,h.fS⟩
def Open.fQ {e:gI}{a:Nat}{w w':Py}{g:Tr}{c:Nat}{i:PO}{f:List Nat}(h:Open a w g c i f)(b:Ap e.R w.heap.size w w')(d:e.R<a):Open a w' g c i f:=
 ⟨h.low,by rw[b.block c (fR h.gG) (by have:=h.low;omega)];exact h.gG,Qw (a:=λj=>a<=j) (Uz.YT b d λ_ h=>h) (λj k=>(Qm h.row j k).2) h.row,h.own,P6.fQ (Uz.YT b d λ_ h=>h.1) _ _ h.fS⟩
section
variable {d:Nat}{a:Py}{c:Tr}{p:Nat}{b:PO}{e:List Nat}(h:Open d a c p b e)
include d a c p b e h
def Open.cell:a.cell? (Pn p 3)=some b/\(∀f,a.frozen? (Pn p f)=false)/\p<a.heap.size:=
 ⟨(gx h.gG).2.2.2.1,(gx h.gG).2.2.2.2,fR h.gG⟩
def Open.shape:∃f g,b=.slice f c.fS.length g:=by
 rw[<-P6.length _ _ h.fS];exact VG h.row
end
def Open.apart {i:gI}{c:Nat}{b g:Py}{m:Tr}{e:Nat}{f:PO}{l:List Nat}(h:Open c b m e f l)(t:c<=b.heap.size)(n:Ap i.R b.heap.size b g)(p:i.R<c){k:List Tr}{j:List Nat}(o:P6 (gz b.heap.size) g k j) :
  P6 (λa=>c<=a/\a≠e/\f.ownBlock≠some a) g (m.fS++k) (l++j):=
 P6.append (M:=b.heap.size) _ _ (P6.mono (λa d _=>by
  have r:b.heap.size<=a:=d;have s:=fR h.gG;exact⟨⟨by omega,by omega,λq=>by have:=(Qm h.row a q).1;omega⟩,r⟩) _ _ o)
  (P6.fQ (I:=λa=>(c<=a/\a≠e/\f.ownBlock≠some a)/\a<b.heap.size) (Uz.YT n p λ_ h=>h.1.1) _ _ (P6.mono (λ_ d q=>⟨d,q⟩) _ _ h.fS))
def Cp {l:Nat}{m f:Py}{p q:Int}{r:PS}{u w:List Tr}{k j:List Nat}{c e o n:Nat}{i:PO}(E:l<=c)(b:m.heap[c]?=some (Qu p r q i))(t:i.ownBlock≠some c)(B:P6 (λa=>l<=a/\a≠c/\i.ownBlock≠some a) m (u++w) (k++j))(L:f.ownsRow l 22 1 (.slice (some (Pn e 0)) o n) o ((k++j).map Pm))(C:o=(k++j).length)(v:m.grownBy f i.ownBlock)(g:i.ownBlock=some e\/e=m.heap.size) :
  EV l (f.setCell (Pn c 3) (.slice (some (Pn e 0)) o n)) (.mk p r q (u++w)) (Pm c):=by
 subst C;have D:=fR b;have s:e≠c:=by
  rcases g with g|g
  ·exact λd=>t (by rw[g,d])
  ·omega
 have H:f.heap[c]?=some (Qu p r q i):=by rw[v.block c D (λd=>t d.symm)];exact b
 have A:∀a,a≠c->(f.setCell (Pn c 3) (.slice (some (Pn e 0)) (k++j).length n)).heap[a]?=f.heap[a]?:=λa b=>gZ f (Pn c 3) _ a b;refine⟨c,.slice (some (Pn e 0)) (k++j).length n,k++j,rfl,E,by rw[gb H];rfl,?_,λd=>s (by simpa[Value.ownBlock] using d),?_⟩
 ·exact Qw (a:=λa=>a=e) (λa b _=>A a (by rw[b];exact s)) (λF z=>by simpa[Value.ownBlock] using z.symm) L
 ·have I:=P6.mono (J:=λa=>l<=a/\a≠c/\a≠e/\i.ownBlock≠some a) (λa b z=>⟨b.1,b.2.1,λd=>by (rcases g with g|g);(exact b.2.2 (by rw[g,d]));omega,b.2.2⟩) _ _ B
  have F:Uz (λa=>l<=a/\a≠c/\a≠e/\i.ownBlock≠some a) m (f.setCell (Pn c 3) (.slice (some (Pn e 0)) (k++j).length n)):=by
   intro a b z;rw[A a b.2.1];exact v.block a z (λd=>b.2.2.2 d.symm)
  exact P6.mono (λa b _=>⟨b.1,b.2.1,λd=>by simp only[Value.ownBlock,he] at d;exact b.2.2.1 d.symm⟩) _ _ (P6.fQ F _ _ I)
def nf {l:gI}{c b e:Py}{v t:Nat}{a x:Tr}{d i g m:Nat}{j:PO}{q:List Nat}(f:Open c.heap.size b a d j q)(A:P6 (λk=>c.heap.size<=k/\k≠d/\j.ownBlock≠some k) b (a.fS++[x]) (q++[i]))(C:QS l b v t)(p:Ap l.R c.heap.size c b)(L:l.lo<=c.heap.size)(H:e.ownsRow c.heap.size 22 1 (.slice (some (Pn g 0)) (a.fS.length+1) m) (a.fS.length+1) (q.map Pm++[Pm i]))(s:(b.alloc (.cells #[Pm i] 22)).grownBy e j.ownBlock)(n:j.ownBlock=some g\/g=b.heap.size+1) :
  EV c.heap.size (e.setCell (Pn d 3) (.slice (some (Pn g 0)) (a.fS.length+1) m)) (.mk a.kd a.tx a.n (a.fS++[x])) (Pm d) /\
  QS l (e.setCell (Pn d 3) (.slice (some (Pn g 0)) (a.fS.length+1) m)) v t /\
  Ap l.R c.heap.size c (e.setCell (Pn d 3) (.slice (some (Pn g 0)) (a.fS.length+1) m)):=by
 have F:=P6.length _ _ f.fS;have B:∀r,Uz r b (b.alloc (.cells #[Pm i] 22)):=λr k _ E=>gy b _ k E;have w:(b.alloc (.cells #[Pm i] 22)).heap[d]?=some (Qu a.kd a.tx a.n j):=by rw[gy b _ d (fR f.gG)];exact f.gG
 have I:∀o,j.ownBlock=some o->c.heap.size<=o:=λo z=>(Qm f.row o z).2;have D:Below c.heap.size b e:=((gi c.heap.size b).alloc p.size _).grown s (by simp;have:=p.size;omega) I
 have u:Below c.heap.size b (e.setCell (Pn d 3) (.slice (some (Pn g 0)) (a.fS.length+1) m)):=D.setCell (p:=(Pn d 3)) f.low _;refine⟨?_,C.ap u L,p.trans (Ap.of u)⟩;refine Cp (m:=b.alloc (.cells #[Pm i] 22)) f.low w f.own (P6.fQ (B _) _ _ A) (by rw[hc];exact H) (by simp[F]) s ?_
 rcases n with n|n
 ·exact fU n
 ·exact f4 (by simp[n])
