import Derived.Test.YticfnaiehdpbmaaGreatDoorFa6
import Derived.Lib.SliceRun
import Derived.OwnWalk
import Derived.Shelf.Strings.Builder1
import Derived.Shelf.Strings.Builder2
import Derived.Shelf.Strings.OnBuilder
import Derived.Shelf.Small.Strs
import Derived.Shelf.Strconv.Itoa0
import Derived.Shelf.Strconv.Itoa1
import Derived.Shelf.LaysM
import Derived.Shelf.Strconv.Itoa2
import Derived.Shelf.Strconv.Itoa3
import Derived.Shelf.Strings.Search1
import Derived.Test.YticfnaiehdpbmaaGreatDoorProg
import Derived.LaidEql
import Derived.Stop.Asserts
import Derived.RowKitTokens
set_option maxRecDepth 100000
set_option maxHeartbeats 8000000
set_option linter.all false
namespace Go.Proofs.YticfnaiehdpbmaaGreatDoor
open Go.RowKit Go.Proofs.Tryz
namespace Hp
def E2 {j:Pe}{f:Nat}{i:TypeId}{size e c d a:Nat}{k:List Px}(h:j.ownsRow f i size (.slice (some (O7 e 0)) c d) c k)(g:a<=c):j.ownsRow f i size (.slice (some (O7 e 0)) a d) a (k.take (a * size)):=by
 have r:=h.1
 rcases h.2 with ⟨b,_⟩|⟨v,u,q,b,l,s,p,o,n,m⟩
 ·simp at b
 ·simp only[g7,hc,iL,js,kC] at b;obtain⟨rfl,rfl⟩:=b;have t:a * size<=c * size:=Nat.mul_le_mul_right _ g;refine⟨by rw[hC,r];omega,.inr ⟨e,d,q,rfl,l,s,f9 g p,o,n,?_⟩⟩
  rw[<-m,lH,lL t]
def Lm {α:Type}(a:List α)(c b:Nat):List α:=(a.eraseIdx c).take b++a.drop b
section
variable {α:Type} {a:List α}
include α a
def B4 {b c:Nat}(d:b<a.length)(e:c<a.length):(Lm a b c).length=a.length:=by
 simp[Lm,jc,d];omega
def M0 {d b c:Nat}(e:d<a.length)(i:b<a.length)(f:b<=c):(Lm a d b)[c]? = a[c]?:=by
 have g:((a.eraseIdx d).take b).length=b:=by simp[jc,e];omega
 rw[Lm,hm O9,g,List.getElem?_drop,Nat.add_sub_cancel' f]
def K7 {b:Nat}(_hk:b<a.length):Lm a b b=a:=by
 rw[Lm,List.eraseIdx_eq_take_drop_succ,oT RQ,lH,Nat.min_self,j3]
def Ig {c b:Nat}{d:α}(j:c<=b)(k:b+1<a.length)(e:a[b+1]? = some d):(Lm a c b).set b d=Lm a c (b+1):=by
 have g:c<a.length:=O9;have i:((a.eraseIdx c).take b).length=b:=by simp[jc,g];omega
 have f:(a.eraseIdx c)[b]? = some d:=by rw[List.getElem?_eraseIdx,fK O9];exact e
 rw[Lm,mN _ _ O9,i,Nat.sub_self,Lm,List.take_add_one,f];rw[iq]
 congr 1
 rw[iD (i:=b) O9];rfl
def Gq {c b:Nat}(d:c<a.length)(e:b+1=a.length):(Lm a c b).take b=a.eraseIdx c:=by
 have f:((a.eraseIdx c).take b).length=b:=by simp[jc,d];omega
 rw[Lm,oT O9,lH,Nat.min_self,iB (by simp[jc,d];omega)]
end
def Ae {α:Type}{e:α->List Px}{b:Nat}(f:∀ d,(e d).length=b):∀ (c:List α) (a:Nat),(c.flatMap e).take (a * b)=(c.take a).flatMap e
 | [],a=>by simp
 | d::c,0=>by simp
 | d::c,a+1=>by
  have h:=Ae f c a;rw[hL,show (a+1) * b=(e d).length+a * b by rw[f,iE];omega,List.take_length_add_append,h,kq,hL]
def KQ:∀ (c:List Pr) (a:Nat) (b:Pr),a<c.length->((((((c.flatMap Pr.h)).set (a * 5) (Pj b.name)).set (a * 5+1) (O3 b.v.k)).set (a * 5+2) (O3 b.v.n)).set (a * 5+3) (Pj b.v.s)).set (a * 5+4) (Pv b.fixed)=(c.set a b).flatMap Pr.h
 | [],a,b,h=>by simp at h
 | e::c,0,b,h=>by simp[Pr.h]
 | e::c,a+1,b,h=>by
  have:=KQ c a b (by simpa using h);have d:(a+1) * 5=a * 5+1+1+1+1+1:=O9;simp only[d,kh,hL,Pr.h,hS,hR] at this ⊢;rw[this]
def AB (d:Py)(a:Pr)(c:Nat)(b:Pe)(f:b.cell? (O7 c 0)=some (Pj d)) :
  Pq 335 #[.agg #[Pj a.name,O3 a.v.k,O3 a.v.n,Pj a.v.s,Pv a.fixed],PL c 0] b λg e=>g=PK (Pv (a.name.toList==d.toList))/\Pn b e:=by
 have i:c<b.heap.size:=i7 b _ f;go_enter func335,ntmps335;go_wp2;go_ret;exact⟨rfl,QJ⟩
def MD (q u H:Nat)(a:List Pr)(g:Py)(m:Nat)(f:Pe)(D:f.ownsRow H 207 5 (.slice (some (O7 q 0)) a.length u) a.length (a.flatMap Pr.h))(N:a.length<=1000000000)(i:Nat)(s:fP g a=some i)(n:f.cell? (O7 m 0)=some (Pj g)) :
  Pq 350 #[.slice (some (O7 q 0)) a.length u,.func (.func 335) #[] #[PL m 0]] f λd C=>d=PK (O3 i)/\Pn f C:=by
 have b{G}(h:G:=by
 go_enter func350,ntmps350;go_wp2_with fail
 go_loopw [8] (λr wr=>∃ e:Nat,e<=i/\r=O3 e/\Pn f wr) (λr _=>i+1 - (intOf r).toNat)
 case atStart=>exact⟨0,f3 _,rfl,RP⟩
 case round=>
  have b{G}(h:G:=by
  obtain⟨U,L,A,_,⟨c,R,_⟩,_⟩:=nL (Qg D O) k;have b{G}(h:G:=by
  have P:wr.cell? (O7 q (e * 5))=some (Pj j.name):=c 0 _ rfl;have S:=c 1 _ rfl;have T:=c 2 _ rfl;have W:=c 3 _ rfl;have X:=c 4 _ rfl;have o:wr.cell? (O7 m 0)=some (Pj g):=(gD O (a:=(O7 m 0)) B.out).trans z.out;have l:=AB g j m wr o;exact Cd):=O6 h;exact oJ):=O6 h;exact AO):=O6 h;exact J5
def zP:List Px:=[Qn,O3 0,O3 0,Qn,Pv false]
def aiZ (a:Pe)(c d k:Nat)(i:∀ b,b<5->(a.cell? (O7 c (d+b))).isSome=true)(g:∀ b,a.frozen? (O7 c b)=false) :
  (Builtin.clear_ #[183] 0 #[.slice (some (O7 c d)) 1 k]).run prog a=.ok (.tuple #[]) (a.setCells c d zP):=by
 have e:=run_storeCells_cells (P:=prog) c d zP 0 a (by simpa[zP] using i) (by simpa using λb _=>g (d+b)) (by intro l f;simp[zP] at f;rcases f with rfl|rfl|rfl|rfl|rfl <;> rfl)
 simp only[iY] at e;have j:∀ a,(zeroValue 207).run prog a=.ok (.agg #[Qn,O3 0,O3 0,Qn,Pv false]) a:=λa=>by
  obtain⟨p,f,l,n,o⟩:=gY Bj;simp[zeroValue,typeInfo,f,l]
 have m:(Builtin.zeroCells (Value.agg #[Qn,O3 0,O3 0,Qn,Pv false]).cells 1).toList=zP:=by kernel_rfl
 simp[Builtin.clear_,ho underlying183,j,m,e]
def aoK {c:Pe}{b g H e a:Nat}{d:List Px}(h:c.ownsRow H 207 5 (.slice (some (O7 b 0)) e g) e d)(r:a<=e):(c.setCells b (a * 5) zP).ownsRow H 207 5 (.slice (some (O7 b 0)) a g) a (d.take (a * 5))/\c.grownBy (c.setCells b (a * 5) zP) (some b):=by
 obtain⟨n,m⟩:=h.stored (a * 5) (Qn);obtain⟨o,l⟩:=n.stored (a * 5+1) (O3 0);obtain⟨p,q⟩:=o.stored (a * 5+2) (O3 0);obtain⟨s,i⟩:=p.stored (a * 5+3) (Qn);obtain⟨t,u⟩:=s.stored (a * 5+4) (Pv false);have j:((((((d).set (a * 5) (Qn)).set (a * 5+1) (O3 0)).set (a * 5+2) (O3 0)).set (a * 5+3) (Qn)).set (a * 5+4) (Pv false)).take (a * 5)=d.take (a * 5):=by
  rw[hW O9,hW O9,hW O9,hW O9,hW O9]
 have k:=PD (PD (PD (PD (m) l) q) i) u;have f:=E2 t r;rw[j] at f;exact⟨f,k⟩
def JV:∀ (c:List Ce) (a:Nat) (b:Ce),a<c.length->(((((((c.flatMap Ce.h)).set (a * 6) (Pj b.name)).set (a * 6+1) (O3 b.v.k)).set (a * 6+2) (O3 b.v.n)).set (a * 6+3) (Pj b.v.s)).set (a * 6+4) (O3 b.kind)).set (a * 6+5) (Pv b.ready)=(c.set a b).flatMap Ce.h
 | [],a,b,h=>by simp at h
 | e::c,0,b,h=>by simp[Ce.h]
 | e::c,a+1,b,h=>by
  have:=JV c a b (by simpa using h);have d:(a+1) * 6=a * 6+1+1+1+1+1+1:=O9;simp only[d,kh,hL,Ce.h,hS,hR] at this ⊢;rw[this]
def GO (d:Py)(a:Ce)(c:Nat)(b:Pe)(f:b.cell? (O7 c 0)=some (Pj d)) :
  Pq 317 #[.agg #[Pj a.name,O3 a.v.k,O3 a.v.n,Pj a.v.s,O3 a.kind,Pv a.ready],PL c 0] b λg e=>g=PK (Pv (a.name.toList==d.toList))/\Pn b e:=by
 have i:c<b.heap.size:=i7 b _ f;go_enter func317,ntmps317;go_wp2;go_ret;exact⟨rfl,QJ⟩
def NX (q u H:Nat)(a:List Ce)(g:Py)(m:Nat)(f:Pe)(D:f.ownsRow H 262 6 (.slice (some (O7 q 0)) a.length u) a.length (a.flatMap Ce.h))(N:a.length<=1000000000)(i:Nat)(s:fC g a=some i)(n:f.cell? (O7 m 0)=some (Pj g)) :
  Pq 336 #[.slice (some (O7 q 0)) a.length u,.func (.func 317) #[] #[PL m 0]] f λd C=>d=PK (O3 i)/\Pn f C:=by
 have b{G}(h:G:=by
 go_enter func336,ntmps336;go_wp2_with fail
 go_loopw [8] (λr wr=>∃ e:Nat,e<=i/\r=O3 e/\Pn f wr) (λr _=>i+1 - (intOf r).toNat)
 case atStart=>exact⟨0,f3 _,rfl,RP⟩
 case round=>
  have b{G}(h:G:=by
  obtain⟨U,L,A,_,⟨c,R,_⟩,_⟩:=oD (Qg D O) k;have b{G}(h:G:=by
  have P:wr.cell? (O7 q (e * 6))=some (Pj j.name):=c 0 _ rfl;have S:=c 1 _ rfl;have T:=c 2 _ rfl;have W:=c 3 _ rfl;have X:=c 4 _ rfl;have ac:=c 5 _ rfl;have o:wr.cell? (O7 m 0)=some (Pj g):=(gD O (a:=(O7 m 0)) B.out).trans z.out;have l:=GO g j m wr o;exact Cd):=O6 h;exact oJ):=O6 h;exact AO):=O6 h;exact J5
def zC:List Px:=[Qn,O3 0,O3 0,Qn,O3 0,Pv false]
def ai1 (a:Pe)(c d k:Nat)(i:∀ b,b<6->(a.cell? (O7 c (d+b))).isSome=true)(g:∀ b,a.frozen? (O7 c b)=false) :
  (Builtin.clear_ #[196] 0 #[.slice (some (O7 c d)) 1 k]).run prog a=.ok (.tuple #[]) (a.setCells c d zC):=by
 have e:=run_storeCells_cells (P:=prog) c d zC 0 a (by simpa[zC] using i) (by simpa using λb _=>g (d+b)) (by intro l f;simp[zC] at f;rcases f with rfl|rfl|rfl|rfl|rfl|rfl <;> rfl)
 simp only[iY] at e;have j:∀ a,(zeroValue 262).run prog a=.ok (.agg #[Qn,O3 0,O3 0,Qn,O3 0,Pv false]) a:=λa=>by
  obtain⟨p,f,l,n,o⟩:=gY Jt;simp[zeroValue,typeInfo,f,l]
 have m:(Builtin.zeroCells (Value.agg #[Qn,O3 0,O3 0,Qn,O3 0,Pv false]).cells 1).toList=zC:=by kernel_rfl
 simp[Builtin.clear_,ho lF,j,m,e]
def aoL {c:Pe}{b g H e a:Nat}{d:List Px}(h:c.ownsRow H 262 6 (.slice (some (O7 b 0)) e g) e d)(r:a<=e):(c.setCells b (a * 6) zC).ownsRow H 262 6 (.slice (some (O7 b 0)) a g) a (d.take (a * 6))/\c.grownBy (c.setCells b (a * 6) zC) (some b):=by
 obtain⟨n,m⟩:=h.stored (a * 6) (Qn);obtain⟨o,l⟩:=n.stored (a * 6+1) (O3 0);obtain⟨p,q⟩:=o.stored (a * 6+2) (O3 0);obtain⟨s,i⟩:=p.stored (a * 6+3) (Qn);obtain⟨t,u⟩:=s.stored (a * 6+4) (O3 0);obtain⟨w,v⟩:=t.stored (a * 6+5) (Pv false);have j:(((((((d).set (a * 6) (Qn)).set (a * 6+1) (O3 0)).set (a * 6+2) (O3 0)).set (a * 6+3) (Qn)).set (a * 6+4) (O3 0)).set (a * 6+5) (Pv false)).take (a * 6)=d.take (a * 6):=by
  rw[hW O9,hW O9,hW O9,hW O9,hW O9,hW O9]
 have k:=PD (PD (PD (PD (PD (m) l) q) i) u) v;have f:=E2 w r;rw[j] at f;exact⟨f,k⟩
def az4 (d p H:Nat)(f:List Pr)(k:Py)(q:Nat)(l:Pe)(F:l.ownsRow H 207 5 (.slice (some (O7 d 0)) f.length p) f.length (f.flatMap Pr.h))(ap:f.length<=1000000000)(g:Nat)(R:fP k f=some g)(X:∀ e a,g<e->f[e]? = some a->iw k a.name=false)(r:l.heap[q]? = some (PZ #[Pj k] 9)) :
  Pq 334 #[.slice (some (O7 d 0)) f.length p,.func (.func 335) #[] #[PL q 0]] l λE L=>E=PK (.slice (some (O7 d 0)) ((f.eraseIdx g).length:Nat) p)/\l.grownBy L (some d)/\L.ownsRow H 207 5 (.slice (some (O7 d 0)) (f.eraseIdx g).length p) (f.eraseIdx g).length ((f.eraseIdx g).flatMap Pr.h):=by
 have w:l.cell? (O7 q 0)=some (Pj k):=by simp[World.cell?,r]
 have ah:=MD d p H f k q l F O9 g R w;have b{G}(h:G:=by
 go_enter func334,ntmps334;have b{G}(h:G:=by
 go_loopw [5,6] (λi e wr=>∃ c:Nat,g<=c/\c+1<=m/\i=O3 c/\e=O3 ((c+1:Nat):Int)/\l.grownBy wr (some d)/\wr.ownsRow H 207 5 (.slice (some (O7 d 0)) m p) m ((Lm f g c).flatMap Pr.h)) (λ_ e _=>m+1 - (intOf e).toNat)
 case atStart=>exact⟨g,Qp,C,rfl,by go_num,aD,by rw[K7 (by rw[<-o.out];exact C)];exact aF⟩
 case round=>
  have b{G}(h:G:=by
  by_cases U:c+1<m
  ·have b{G}(h:G:=by
   obtain⟨aO,aN,A,_,⟨s,_,W⟩,_⟩:=nL ac ad;have b{G}(h:G:=by
   have S:=ay.out (c+1) a O9 N;have bz:wr.cell? (O7 d ((c+1) * 5))=some (Pj a.name):=s 0 _ rfl;have bA:wr.cell? (O7 d ((c+1) * 5+1))=some (O3 a.v.k):=s 1 _ rfl;have bB:wr.cell? (O7 d ((c+1) * 5+2))=some (O3 a.v.n):=s 2 _ rfl;have bC:wr.cell? (O7 d ((c+1) * 5+3))=some (Pj a.v.s):=s 3 _ rfl;have bD:wr.cell? (O7 d ((c+1) * 5+4))=some (Pv a.fixed):=s 4 _ rfl;have w:(wr.alloc (.cells #[Pj a.name,O3 a.v.k,O3 a.v.n,Pj a.v.s,Pv a.fixed] 207)).cell? (O7 q 0)=some (Pj k):=by
    rw[hb _ _ _ (gz D)];simp[World.cell?,D]
   have T:=AB k a q _ w;rw[show (a.name.toList==k.toList)=false from S] at T;have bc:=Y N;have a6:=Y z;have B:∀ e,e<5->∃ a8,wr.cell? (O7 d (c * 5+e))=some a8:=λe n=>by
    have:=u.cellAt (c * 5+e) O9;rw[this];obtain⟨x,i⟩:∃ x,(Lm f g c)[c]? = some x:=⟨_,ga O9⟩;rw[Yv (a:=5) (λ_=>rfl) _ c e n,i];exact⟨_,ga (by simpa[Pr.h] using n)⟩
   have b{G}(h:G:=by
   have b{G}(h:G:=by
   have M:Below (wr.heap.size+1) (wr.alloc (.cells #[Pj a.name,O3 a.v.k,O3 a.v.n,Pj a.v.s,Pv a.fixed] 207)) i:=j.mono P7;have v:i.heap[wr.heap.size]? = some (PZ #[Pj a.name,O3 a.v.k,O3 a.v.n,Pj a.v.s,Pv a.fixed] 207):=(M.block _ (ki _)).trans (hD wr _);have b{G}(h:G:=by
   have bG:i.cell? (O7 wr.heap.size 4)=some (Pv a.fixed):=by simp[World.cell?,v]
   have b{G}(h:G:=by
   have bf:∀ e,i.frozen? (O7 d e)=false:=λe=>by
    rw[g6 (w:=wr.alloc (.cells #[Pj a.name,O3 a.v.k,O3 a.v.n,Pj a.v.s,Pv a.fixed] 207)) (a:=(O7 d e)) (M.block d O9),jw _ _ _ (by show d≠_;omega)]
    exact ak.out e
   have bu:i.cell? (O7 d (c * 5))=some u0:=(t _).trans aG;have bF:i.cell? (O7 d (c * 5+1))=some u1:=(t _).trans aJ;have bv:i.cell? (O7 d (c * 5+2))=some u2:=(t _).trans aK;have bx:i.cell? (O7 d (c * 5+3))=some u3:=(t _).trans aL;have bE:i.cell? (O7 d (c * 5+4))=some u4:=(t _).trans aI;have bh:d≠wr.heap.size:=O9;have be:d<i.heap.size:=O9
   have aZ:i.ownsRow H 207 5 (.slice (some (O7 d 0)) m p) m ((Lm f g c).flatMap Pr.h):=u.kept (PD (hG _ _ none) ⟨j.os,j.tape,j.output,j.size,λe n _=>j.block e n⟩) (by simp[Value.ownBlock]);obtain⟨aV,aU⟩:=aZ.stored (c * 5) (Pj a.name);obtain⟨aW,aS⟩:=aV.stored (c * 5+1) (O3 a.v.k);obtain⟨aX,aY⟩:=aW.stored (c * 5+2) (O3 a.v.n);obtain⟨a1,aQ⟩:=aX.stored (c * 5+3) (Pj a.v.s);obtain⟨ai,a7⟩:=a1.stored (c * 5+4) (Pv a.fixed)
   rw[KQ (Lm f g c) c a (by rw[a6.out];omega),Ig aj (by rw[<-o.out];exact U) bc.out] at ai
   have ba:l.grownBy _ (some d):=PD P (PD (hG wr (.cells #[Pj a.name,O3 a.v.k,O3 a.v.n,Pj a.v.s,Pv a.fixed] 207) (some d)) (PD ⟨j.os,j.tape,j.output,j.size,λe n _=>j.block e n⟩ (PD (PD (PD (PD (aU) aS) aY) aQ) a7)));clear v t;go_wp2
   go_roundw
   case rel=>exact⟨c+1,by omega,by omega,by go_num,by go_num,ba,ai⟩
   case measure=>simp[intOf];omega):=O6 h;exact FD):=O6 h;exact CC):=O6 h;exact DZ):=O6 h;exact Gx):=O6 h;exact oJ):=O6 h;exact DI
  ·have b{G}(h:G:=by
   have i:((Lm f g c).flatMap Pr.h).length=(c+1) * 5:=by rw[G6 (b:=5) (λ_=>rfl),z]
   have t:Hid (∀ e,e<5->(wr.cell? (O7 d (c * 5+e))).isSome=true):=λe n=>by
    have:=u.cellAt (c * 5+e) O9;rw[this,ga (by rw[i];omega)]
    rfl
   have s:Hid (∀ e,wr.frozen? (O7 d e)=false):=u.frozenAt;have r:=aoK (a:=c) u O9;rw[Ae (b:=5) (λ_=>rfl),Gq O (by rw[<-o.out])] at r;have j:=Y r;clear D r i z;go_wp2_with fail;rw[aiZ wr d (c * 5) _ t.out s.out];go_simp;go_wp2;go_ret;exact⟨rfl,PD P j.out.2,j.out.1⟩):=O6 h;exact K6):=O6 h;exact EZ):=O6 h;exact Ej):=O6 h;exact Dy
def We (d p H:Nat)(f:List Ce)(k:Py)(q:Nat)(l:Pe)(F:l.ownsRow H 262 6 (.slice (some (O7 d 0)) f.length p) f.length (f.flatMap Ce.h))(ap:f.length<=1000000000)(g:Nat)(R:fC k f=some g)(X:∀ e a,g<e->f[e]? = some a->iw k a.name=false)(r:l.heap[q]? = some (PZ #[Pj k] 9)) :
  Pq 316 #[.slice (some (O7 d 0)) f.length p,.func (.func 317) #[] #[PL q 0]] l λE L=>E=PK (.slice (some (O7 d 0)) ((f.eraseIdx g).length:Nat) p)/\l.grownBy L (some d)/\L.ownsRow H 262 6 (.slice (some (O7 d 0)) (f.eraseIdx g).length p) (f.eraseIdx g).length ((f.eraseIdx g).flatMap Ce.h):=by
 have w:l.cell? (O7 q 0)=some (Pj k):=by simp[World.cell?,r]
 have ah:=NX d p H f k q l F O9 g R w;have b{G}(h:G:=by
 go_enter func316,ntmps316;have b{G}(h:G:=by
 go_loopw [5,6] (λi e wr=>∃ c:Nat,g<=c/\c+1<=m/\i=O3 c/\e=O3 ((c+1:Nat):Int)/\l.grownBy wr (some d)/\wr.ownsRow H 262 6 (.slice (some (O7 d 0)) m p) m ((Lm f g c).flatMap Ce.h)) (λ_ e _=>m+1 - (intOf e).toNat)
 case atStart=>exact⟨g,Qp,C,rfl,by go_num,aD,by rw[K7 (by rw[<-o.out];exact C)];exact aF⟩
 case round=>
  have b{G}(h:G:=by
  by_cases U:c+1<m
  ·have b{G}(h:G:=by
   obtain⟨aO,aN,A,_,⟨s,_,W⟩,_⟩:=oD ac ad;have b{G}(h:G:=by
   have S:=ay.out (c+1) a O9 N;have bD:wr.cell? (O7 d ((c+1) * 6))=some (Pj a.name):=s 0 _ rfl;have bE:wr.cell? (O7 d ((c+1) * 6+1))=some (O3 a.v.k):=s 1 _ rfl;have bF:wr.cell? (O7 d ((c+1) * 6+2))=some (O3 a.v.n):=s 2 _ rfl;have bG:wr.cell? (O7 d ((c+1) * 6+3))=some (Pj a.v.s):=s 3 _ rfl;have bH:wr.cell? (O7 d ((c+1) * 6+4))=some (O3 a.kind):=s 4 _ rfl;have bL:wr.cell? (O7 d ((c+1) * 6+5))=some (Pv a.ready):=s 5 _ rfl
   have w:(wr.alloc (.cells #[Pj a.name,O3 a.v.k,O3 a.v.n,Pj a.v.s,O3 a.kind,Pv a.ready] 262)).cell? (O7 q 0)=some (Pj k):=by
    rw[hb _ _ _ (gz D)];simp[World.cell?,D]
   have T:=GO k a q _ w;rw[show (a.name.toList==k.toList)=false from S] at T;have bh:=Y N;have a7:=Y z;have B:∀ e,e<6->∃ bc,wr.cell? (O7 d (c * 6+e))=some bc:=λe n=>by
    have:=u.cellAt (c * 6+e) O9;rw[this];obtain⟨x,i⟩:∃ x,(Lm f g c)[c]? = some x:=⟨_,ga O9⟩;rw[Yv (a:=6) (λ_=>rfl) _ c e n,i];exact⟨_,ga (by simpa[Ce.h] using n)⟩
   have b{G}(h:G:=by
   obtain⟨u5,aS⟩:=B 5 Pm;have b{G}(h:G:=by
   have M:Below (wr.heap.size+1) (wr.alloc (.cells #[Pj a.name,O3 a.v.k,O3 a.v.n,Pj a.v.s,O3 a.kind,Pv a.ready] 262)) i:=j.mono P7;have v:i.heap[wr.heap.size]? = some (PZ #[Pj a.name,O3 a.v.k,O3 a.v.n,Pj a.v.s,O3 a.kind,Pv a.ready] 262):=(M.block _ (ki _)).trans (hD wr _);have b{G}(h:G:=by
   have bN:i.cell? (O7 wr.heap.size 4)=some (O3 a.kind):=by simp[World.cell?,v]
   have bK:i.cell? (O7 wr.heap.size 5)=some (Pv a.ready):=by simp[World.cell?,v]
   have b{G}(h:G:=by
   have bv:∀ e,i.frozen? (O7 d e)=false:=λe=>by
    rw[g6 (w:=wr.alloc (.cells #[Pj a.name,O3 a.v.k,O3 a.v.n,Pj a.v.s,O3 a.kind,Pv a.ready] 262)) (a:=(O7 d e)) (M.block d O9),jw _ _ _ (by show d≠_;omega)]
    exact ak.out e
   have bA:i.cell? (O7 d (c * 6))=some u0:=(t _).trans aG;have bM:i.cell? (O7 d (c * 6+1))=some u1:=(t _).trans aJ;have bB:i.cell? (O7 d (c * 6+2))=some u2:=(t _).trans aK;have bC:i.cell? (O7 d (c * 6+3))=some u3:=(t _).trans aL;have bI:i.cell? (O7 d (c * 6+4))=some u4:=(t _).trans aI;have bz:i.cell? (O7 d (c * 6+5))=some u5:=(t _).trans aS;have bx:d≠wr.heap.size:=O9;have bu:d<i.heap.size:=O9
   have a1:i.ownsRow H 262 6 (.slice (some (O7 d 0)) m p) m ((Lm f g c).flatMap Ce.h):=u.kept (PD (hG _ _ none) ⟨j.os,j.tape,j.output,j.size,λe n _=>j.block e n⟩) (by simp[Value.ownBlock]);obtain⟨aW,aV⟩:=a1.stored (c * 6) (Pj a.name);obtain⟨aX,aU⟩:=aW.stored (c * 6+1) (O3 a.v.k);obtain⟨aY,aZ⟩:=aX.stored (c * 6+2) (O3 a.v.n);obtain⟨a6,aQ⟩:=aY.stored (c * 6+3) (Pj a.v.s);obtain⟨a8,ba⟩:=a6.stored (c * 6+4) (O3 a.kind);obtain⟨ai,be⟩:=a8.stored (c * 6+5) (Pv a.ready)
   rw[JV (Lm f g c) c a (by rw[a7.out];omega),Ig aj (by rw[<-o.out];exact U) bh.out] at ai
   have bf:l.grownBy _ (some d):=PD P (PD (hG wr (.cells #[Pj a.name,O3 a.v.k,O3 a.v.n,Pj a.v.s,O3 a.kind,Pv a.ready] 262) (some d)) (PD ⟨j.os,j.tape,j.output,j.size,λe n _=>j.block e n⟩ (PD (PD (PD (PD (PD (aV) aU) aZ) aQ) ba) be)));clear v t;go_wp2
   go_roundw
   case rel=>exact⟨c+1,by omega,by omega,by go_num,by go_num,bf,ai⟩
   case measure=>simp[intOf];omega):=O6 h;exact FD):=O6 h;exact CC):=O6 h;exact DZ):=O6 h;exact Gx):=O6 h;exact oJ):=O6 h;exact DI
  ·have b{G}(h:G:=by
   have i:((Lm f g c).flatMap Ce.h).length=(c+1) * 6:=by rw[G6 (b:=6) (λ_=>rfl),z]
   have t:Hid (∀ e,e<6->(wr.cell? (O7 d (c * 6+e))).isSome=true):=λe n=>by
    have:=u.cellAt (c * 6+e) O9;rw[this,ga (by rw[i];omega)]
    rfl
   have s:Hid (∀ e,wr.frozen? (O7 d e)=false):=u.frozenAt;have r:=aoL (a:=c) u O9;rw[Ae (b:=6) (λ_=>rfl),Gq O (by rw[<-o.out])] at r;have j:=Y r;clear D r i z;go_wp2_with fail;rw[ai1 wr d (c * 6) _ t.out s.out];go_simp;go_wp2;go_ret;exact⟨rfl,PD P j.out.2,j.out.1⟩):=O6 h;exact K6):=O6 h;exact EZ):=O6 h;exact Ej):=O6 h;exact Dy
section
variable {H:Nat} {R:List Px} {w g:Pe} {c:Mo} {l k:Px} {p m:List Px} {K:Nat}
def DN {w a:Pe}{b:Py}(d:Below (w.heap.size+1) (w.alloc (.cells #[Pj b] 9)) a):a.heap[w.heap.size]? = some (PZ #[Pj b] 9):=(d.block _ (ki _)).trans (hD w _)
section
variable (h:HP H R w c l k p m) (q:c.Small K) (o:K<=1000000000) (e:Int) (a:Py)
include h q o e a
def Mk (t:c.gv e a=none) :
  Pq 315 #[PL H 0,O3 e,Pj a] w λi j=>i=PK (Pv true)/\Pn w j:=by
 have b{G}(h:G:=by
 obtain⟨z,v,n,s,f⟩:=wA (h.fH B) q o e a;have u:v=none:=by
  rcases f with ⟨h,_⟩|⟨_,_,_,_,_,_,_,_,_,_,d,_⟩
  ·exact h
  ·rw[t] at d;cases d
 subst u;clear h f t;go_enter func315,ntmps315;exact DR):=O6 h;exact sY
def aoM {t:Pr}(f:c.gv e a=some t)(E:t.fixed=true) :
  Pq 315 #[PL H 0,O3 e,Pj a] w λi j=>i=PK (Pv false)/\Pn w j:=by
 have b{G}(h:G:=by
 obtain⟨S,T,z,C,u⟩:=wA (h.fH B) q o e a
 rcases u with ⟨_,d⟩|⟨N,x,O,F,M,I,rfl,_,_,_,d,rfl,_,r⟩
 ·rw[f] at d;cases d
 rw[f] at d;cases d;have A:=Y r;clear h f r;go_enter func315,ntmps315;go_wp2_with fail;refine cm z ?_;rintro i j ⟨rfl,rfl⟩;go_wp2_with fail;refine cm C ?_;rintro i g ⟨rfl,n⟩;obtain⟨s,L,P⟩:=A.out g n;have D:=s 4 _ rfl;rw[E] at D;have v:=((f2 _ w).alloc Qp _).trans (n.mono P7);clear s;go_wp2;go_ret;exact⟨rfl,v⟩):=O6 h;exact sY
end
def il {α:Type}(d:α->Py)(i:List α):Prop:=∀ (e f:Nat) a b,i[e]? = some a->i[f]? = some b->(d a).toList=(d b).toList->e=f
def Fs {α:Type}{a:α->Py}{e:List α}(h:il a e){f:Py}{d:Nat}(n:e.findIdx? (λj=>iw f (a j))=some d):∀ i b,d<i->e[i]? = some b->iw f (a b)=false:=by
 intro i b u o;obtain⟨s,t,_⟩:=jf.1 n
 by_cases j:iw f (a b)=true
 ·have r:(a b).toList=f.toList:=by simpa[iw] using j
  have q:(a e[d]).toList=f.toList:=by simpa[iw] using t
  have:=h d i e[d] b (ga s) o (q.trans r.symm);omega
 ·simpa using j
section
variable (h:HP H R w c l k p m) (ay:c.Small K) (o:K<=1000000000)
include h ay o
def NC (d:Nat)(x:Ob)(v:c.objs[d]? = some x)(f:Py)(j:Nat)(aj:Pr)(u:fP f x.ps=some j)(O:x.ps[j]? = some aj)(aF:aj.fixed=false)(aL:il Pr.name x.ps) :
  Pq 315 #[PL H 0,O3 (d:Int),Pj f] w λi t=>i=PK (Pv true)/\(∃ a,HP H R t (c.Uh d ⟨x.code,x.ps.eraseIdx j⟩) l k a m)/\Ql Th H w t:=by
 have b{G}(h:G:=by
 obtain⟨a,aQ,U,N,aN,ah,P,a1,ap,bf,ad,_⟩:=ac.ob.at_ (i:=d) (e:=x.h) (by simp[v]);have B:=q6 a aQ _ d aN n;rw[<-N] at B;have q:n.ownsRow H 207 5 U x.ps.length (x.ps.flatMap Pr.h):=a1;have ax:=ay.ps x (gt v);have r:=vN a (d * 2) U x.ps H f n (P 1 U rfl) q O9;obtain⟨z,T,rfl,bh,_,_⟩:=nL q O;rw[u] at r;simp only[mc] at r;have ai:=Y ah;have aW:=Y v;have aX:=Y O;have au:=Y N;have aS:=Y u;have aJ:=Y (Fs (a:=Pr.name) aL u)
 have a8:=Y (P 1 _ rfl);have S:=Y ap;have aU:=Y ad;have aK:=Y ax;clear P u v O h ah N ax ap ad;go_enter func315,ntmps315;have b{G}(h:G:=by
 obtain⟨bj,be,A,_,⟨D,bi,a7⟩,_⟩:=nL (Qg q e) aX.out;have b{G}(h:G:=by
 have b{G}(h:G:=by
 have aV:=az4 z T H x.ps f w.heap.size g (Qg q e) (by have:=aK.out;omega) j aS.out aJ.out M
 have a6:a<g.heap.size:=hn S.out e.size;have F:g.cell? (O7 a (d * 2+1))=some (.slice (some (O7 z 0)) x.ps.length T):=(gD e (a:=(O7 a (d * 2+1))) S.out).trans a8.out;have I:g.frozen? (O7 a (d * 2+1))=false:=(g6 (w:=n) (a:=(O7 a (d * 2+1))) (e.block a S.out)).trans (aU.out _);clear D M a7;go_wp2_with fail;refine cm aV ?_;rintro i aC ⟨rfl,ak,aZ⟩;have C:=E.Gp (a:=⟨x.code,x.ps.eraseIdx j⟩) aW.out ai.out au.out ak aZ (λaO am=>.inl am) rfl;have W:=Y C
 have aD:aC.cell? (O7 a (d * 2+1))=some (.slice (some (O7 z 0)) x.ps.length T)/\aC.frozen? (O7 a (d * 2+1))=false:=by
  have aO:some a≠some z:=λi=>by
   obtain⟨_,_,aY⟩:=E.ob.nc ai.out;exact(aY a i.symm).2.2.1 (by rw[au.out];rfl)
  have am:=ak.block a a6 aO;exact⟨(gs (w:=g) (a:=(O7 a (d * 2+1))) am).trans F,(g6 (w:=g) (a:=(O7 a (d * 2+1))) am).trans I⟩
 exact LK):=O6 h;exact Lz):=O6 h;exact oJ):=O6 h;exact y2):=O6 h;exact Cm
def awf (d:Nat)(x:Ro)(v:c.Pz[d]? = some x)(f:Py)(j:Nat)(aj:Ce)(u:fC f x.cs=some j)(O:x.cs[j]? = some aj)(aF:aj.kind=4)(aL:il Ce.name x.cs) :
  Pq 297 #[PL H 0,O3 (d:Int),Pj f] w λi t=>i=PK (Pv true)/\(∃ a,HP H R t (c.Tj d ⟨x.outer,x.f6,x.cs.eraseIdx j⟩) l k p a)/\Ql Th H w t:=by
 have b{G}(h:G:=by
 obtain⟨a,aQ,U,N,aN,ah,P,a1,ap,bf,ad,_⟩:=ac.ro.at_ (i:=d) (e:=x.h) (by simp[v]);have B:=ra a aQ _ d aN n;rw[<-N] at B;have q:n.ownsRow H 262 6 U x.cs.length (x.cs.flatMap Ce.h):=a1;have ax:=ay.cs x (gt v);have r:=wB a (d * 3) U x.cs H f n (P 2 U rfl) q O9;obtain⟨z,T,rfl,bh,_,_⟩:=oD q O;rw[u] at r;simp only[mc] at r;have ai:=Y ah;have aW:=Y v;have aX:=Y O;have au:=Y N;have aS:=Y u;have aJ:=Y (Fs (a:=Ce.name) aL u)
 have a8:=Y (P 2 _ rfl);have S:=Y ap;have aU:=Y ad;have aK:=Y ax;clear P u v O h ah N ax ap ad;go_enter func297,ntmps297;have b{G}(h:G:=by
 obtain⟨bj,be,A,_,⟨D,bi,a7⟩,_⟩:=oD (Qg q e) aX.out;have b{G}(h:G:=by
 have b{G}(h:G:=by
 have aV:=We z T H x.cs f w.heap.size g (Qg q e) (by have:=aK.out;omega) j aS.out aJ.out M
 have a6:a<g.heap.size:=hn S.out e.size;have F:g.cell? (O7 a (d * 3+2))=some (.slice (some (O7 z 0)) x.cs.length T):=(gD e (a:=(O7 a (d * 3+2))) S.out).trans a8.out;have I:g.frozen? (O7 a (d * 3+2))=false:=(g6 (w:=n) (a:=(O7 a (d * 3+2))) (e.block a S.out)).trans (aU.out _);clear D M a7;go_wp2_with fail;refine cm aV ?_;rintro i aC ⟨rfl,ak,aZ⟩;have C:=E.sW (a:=⟨x.outer,x.f6,x.cs.eraseIdx j⟩) aW.out ai.out au.out ak aZ (λaO am=>.inl am) ⟨rfl,rfl⟩
 have W:=Y C;have aD:aC.cell? (O7 a (d * 3+2))=some (.slice (some (O7 z 0)) x.cs.length T)/\aC.frozen? (O7 a (d * 3+2))=false:=by
  have aO:some a≠some z:=λi=>by
   obtain⟨_,_,aY⟩:=E.ro.nc ai.out;exact(aY a i.symm).2.2.1 (by rw[au.out];rfl)
  have am:=ak.block a a6 aO;exact⟨(gs (w:=g) (a:=(O7 a (d * 3+2))) am).trans F,(g6 (w:=g) (a:=(O7 a (d * 3+2))) am).trans I⟩
 exact LK):=O6 h;exact Lz):=O6 h;exact oJ):=O6 h;exact y2):=O6 h;exact Cm
def aoN (i:Int)(a:Py){s:Ce}(e:c.ic i a=some s)(S:s.kind≠4) :
  Pq 297 #[PL H 0,O3 i,Pj a] w λf j=>f=PK (Pv false)/\Pn w j:=by
 have b{G}(h:G:=by
 obtain⟨O,P,v,A,t⟩:=ZP (h.fH B) ay o i a
 rcases t with ⟨_,d⟩|⟨I,x,L,C,F,D,rfl,_,_,_,d,rfl,_,q⟩
 ·rw[e] at d;cases d
 rw[e] at d;cases d;have z:=Y q;clear h e q;go_enter func297,ntmps297;go_wp2_with fail;refine cm v ?_;rintro f j ⟨rfl,rfl⟩;go_wp2_with fail;refine cm A ?_;rintro f g ⟨rfl,n⟩;obtain⟨r,E,M⟩:=z.out g n;have N:=r 4 _ rfl;have u:=((f2 _ w).alloc Qp _).trans (n.mono P7);clear r;go_wp2;go_ret;exact⟨rfl,u⟩):=O6 h;exact sY
def Nn (i:Int)(a:Py)(I:c.ic i a=none)(C:Bool)(M:Mo)(D:∀ j,Pn w j->Pq 315 #[PL H 0,O3 (c.SI i),Pj a] j λf w'=>f=PK (Pv C)/\Qx H R w' M/\Ql Th H j w') :
  Pq 297 #[PL H 0,O3 i,Pj a] w λf w'=>f=PK (Pv C)/\Qx H R w' M/\Ql Th H w w':=by
 have b{G}(h:G:=by
 obtain⟨ap,aj,s,z,X⟩:=ZP (h.fH B) ay o i a;have ad:aj=none:=by
  rcases X with ⟨h,_⟩|⟨_,_,_,_,_,_,_,_,_,_,d,_⟩
  ·exact h
  ·rw[I] at d;cases d
 subst ad;have b{G}(h:G:=by
 rw[<-q] at D;have N:=Y D;clear h X I D q;go_enter func297,ntmps297;have b{G}(h:G:=by
 have b{G}(h:G:=by
 have F:g.heap[w.heap.size]? = some (PZ #[Pj a] 9):=DN (d.mono P7);have ac:g.cell? (O7 w.heap.size 0)=some (Pj a):=by simp[World.cell?,F]
 have O:=Y F;clear F;go_wp2_with fail;refine wp_region_held (S:=λj=>j.cell? (O7 w.heap.size 0)=some (Pj a)) Qs ?_;change wpAnyH _ _ _ _ _ _ _ _ (World.drew _);have t:Hid (g.drew.cell? (O7 w.heap.size 0)=some (Pj a)):=ac;refine wh 0 (PL H 0) t.out ?_;refine wh 1 (PL H 0) t.out ?_;refine wh 2 (O3 i) t.out ?_;refine wg 4 (Pj a) rfl (fM ⟨by kernel_rfl,λj U=>by go_simp⟩) t.out ?_;refine Ye 3 λK o=>?_;go_simp;refine cm (T.out _ r.drew) ?_;rintro f am ⟨rfl,rfl⟩;refine o.out _ _ t.out (λ_=>?_);clear o K
 refine Ye 5 λK o=>?_;go_simp;refine cm (N.out _ r.drew) ?_;rintro f W ⟨rfl,ai,E⟩;have ah:=(Ql.of r.drew (P6 ak)).trans E;have L:Hid (W.cell? (O7 w.heap.size 0)=some (Pj a)):=by
  have U:=E.rest _ _ 9 O.out Pm;simp[Hid,World.cell?,U]
 refine o.out _ _ L.out (λ_=>?_);clear o K E;refine wh 6 (Pv C) L.out ?_;refine wpAnyH_done Qs ?_ _;go_simp;go_wp2;go_ret;exact⟨rfl,ai,ah⟩):=O6 h;exact oj):=O6 h;exact o7):=O6 h;exact v8):=O6 h;exact sY
end
def HP.uq (h:HP H R w c l k p m)(d:Int){a:Px}(i:w.grownBy g l.ownBlock)(j:g.ownsRow H 185 2 a (c.objs.length+1) (flat (c.objs.map Ob.h) p++[O3 d,Q8])) :
  HP H R (g.setCell (O7 H 0) a) ⟨c.objs++[⟨d,[]⟩],c.Pz⟩ a k (p++[Q8]) m/\Ql Th H w (g.setCell (O7 H 0) a):=by
 obtain⟨n,e⟩:=h.ob.push (P6 (gz h.gw)) [O3 d] rfl i (by rw[gu];exact j)
 have b:=e.rest H _ 84 h.gw Pm;have f:Ql [84] H g (g.setCell (O7 H 0) a):=Ql.setCell (Ql.of RP (P6 (gz b))) b P7 Qp _;refine⟨⟨?_,?_,(h.ro.fR e Pm Pm).fR f Pm Pm⟩,(e.mono Pm Qp).trans (f.mono Pm Qp)⟩
 ·rw[hk g H 0 _ 84 _ b];rfl
 ·have:=n.fR f Pm Pm;rw[gM];exact this
def HP.sD (h:HP H R w c l k p m)(b d:Int){a:Px}(j:w.grownBy g k.ownBlock)(n:g.ownsRow H 198 3 a (c.Pz.length+1) (flat (c.Pz.map Ro.h) m++[O3 b,O3 d,Q8])) :
  HP H R (g.setCell (O7 H 1) a) ⟨c.objs,c.Pz++[⟨b,d,[]⟩]⟩ l a p (m++[Q8])/\Ql Th H w (g.setCell (O7 H 1) a):=by
 obtain⟨o,f⟩:=h.ro.push (P6 (gz h.gw)) [O3 b,O3 d] rfl j (by rw[gu];exact n)
 have e:=f.rest H _ 84 h.gw Pm;have i:Ql [84] H g (g.setCell (O7 H 1) a):=Ql.setCell (Ql.of RP (P6 (gz e))) e P7 Qp _;refine⟨⟨?_,(h.ob.fR f Pm Pm).fR i Pm Pm,?_⟩,(f.mono Pm Qp).trans (i.mono Pm Qp)⟩
 ·rw[hk g H 1 _ 84 _ e];rfl
 ·have:=o.fR i Pm Pm;rw[gM];exact this
def N8:(prog.info? 185).map (λa=>(a.zero,a.size,a.bytes))=some (some (.agg #[O3 0,Q8]),2,32):=by kernel_rfl
def MJ:(prog.info? 198).map (λa=>(a.zero,a.size,a.bytes))=some (some (.agg #[O3 0,O3 0,Q8]),3,40):=by kernel_rfl
def Q3 (w:Pe)(H:Nat)(e:w.heap.size=H)(b:Int)(a:Nat)(d:Px)(h:([O3 b,Q8]:List Px)[a]? = some d) :
  (w.alloc (.cells #[O3 b,Q8] 185)).cell? (Addr.add (O7 H 0) a)=some d:=by
 subst e
 match a,h with
 | 0,h=>simp at h;subst h;simp[Addr.add]
 | 1,h=>simp at h;subst h;simp[Addr.add]
 | f+2,h=>simp at h
def arw (d:Int):∀ b ∈ ([O3 d,Q8]:List Px),b.oneCell'=true:=by
 intro b a;simp at a
 rcases a with rfl|rfl <;> rfl
def Yw (w:Pe)(H:Nat)(i:w.heap.size=H)(b d:Int)(f:Px)(a:Nat)(e:Px)(h:([O3 b,O3 d,f]:List Px)[a]? = some e) :
  (w.alloc (.cells #[O3 b,O3 d,f] 198)).cell? (Addr.add (O7 H 0) a)=some e:=by
 subst i
 match a,h with
 | 0,h=>simp at h;subst h;simp[Addr.add]
 | 1,h=>simp at h;subst h;simp[Addr.add]
 | 2,h=>simp at h;subst h;simp[Addr.add]
 | j+3,h=>simp at h
def tG (d e:Int):∀ b ∈ ([O3 d,O3 e,Q8]:List Px),b.oneCell'=true:=by
 intro b a;simp at a
 rcases a with rfl|rfl|rfl <;> rfl
def aoP (h:HP H R w c l k p m)(t:c.Small K)(X:K<=1000000000)(a:Int) :
  Pq 49 #[PL H 0,O3 a] w λd i=>d=PK (O3 c.objs.length)/\Qx H R i ⟨c.objs++[⟨a,[]⟩],c.Pz⟩/\Ql Th H w i:=by
 obtain⟨E,F,s,I,r⟩:=h.c;have L:=t.o;have f:w.ownsRow H 185 2 l c.objs.length (flat (c.objs.map Ob.h) p):=by have:=h.ob.row;rwa [gu] at this
 obtain⟨P,q⟩:=xH c.objs.length;rw[<-q.out] at f L ⊢;obtain⟨S,B,C,u,A⟩:=gY N8;go_enter func49,ntmps49
 go_wp2_with (at_builtin;refine wpList_append_lies _ rfl _ _ 76 rfl H 185 S _ 2 32 underlying76 B C u A rfl Pm _ _ _ rfl (f.alloc _) (O7 w.heap.size 0) 1 1 [O3 a,Q8] rfl rfl (Q3 w _ rfl a) (arw a) Pm (by unfold maxLen;omega) O9 RQ (w.heap.size+1) P7 ?_)
 intro O N b M D z _;have n:w.grownBy b l.ownBlock:=PD (hG _ _ _) D;have j:l.ownBlock≠some H:=λd=>by
  obtain⟨ac,v⟩:=QM f d;exact RG v h.gw Pm rfl
 have e:b.heap[H]? = some (.cells (l::k::R).toArray 84 (0,0)):=by rw[n.block H r (λd=>j d.symm)];exact h.gw
 have T:b.cell? (O7 H 0)=some l:=by simp[World.cell?,e]
 have U:b.frozen? (O7 H 0)=false:=by simp[World.frozen?,e]
 have W:H<b.heap.size:=gz e;have o:=Y (h.uq a (a:=.slice (some (O7 O 0)) (P+1) N) n (by rw[<-q.out];exact M))
 clear j e z E F s I;go_wp2;go_ret;exact⟨by simp,⟨_,_,_,_,o.out.1⟩,o.out.2⟩
def Lj (h:HP H R w c l k p m)(a:Nat)(x:Ob)(j:c.objs[a]? = some x):∃ e:Addr,Pq 126 #[l,O3 (a:Int)] w λo d=>o=PK (.pointer (some e))/\d=w:=by
 obtain⟨q,n,A,f,i,u,t,z,v,s,r,_⟩:=h.ob.at_ (i:=a) (e:=x.h) (by simp[j]);have b:=q6 q n _ a i w;rw[<-f] at b;exact⟨_,b⟩
section
variable (h:HP H R w c l k p m) (ay:c.Small K) (a:K<=1000000000)
include h ay a
def NN :
  Pq 105 #[PL H 0,O3 (-1),O3 (-1)] w λd ac=>d=PK (O3 (c.Pz.length:Int))/\Qx H R ac ⟨c.objs,c.Pz++[⟨(-1),(-1),[]⟩]⟩/\Ql Th H w ac:=by
 have f{G}(h:G:=by
 have aI:Pn w (w.alloc (.cells #[O3 (-1),O3 (-1),Q8] 198)):=QJ;have ak:=Yx k _ (QY h.ro.row) (-1) (.inl Pm) (w.alloc (.cells #[O3 (-1),O3 (-1),Q8] 198));have ax:=Zw l _ (QY h.ob.row) (-1) (.inl Pm) (w.alloc (.cells #[O3 (-1),O3 (-1),Q8] 198));go_enter func105,ntmps105;go_wp2_with fail;refine cm ak ?_;rintro d g ⟨rfl,o⟩;rw[o];clear o;go_wp2_with fail;refine cm ax ?_;have f{G}(h:G:=by
 obtain⟨b,t⟩:=xE (w.alloc (.cells #[O3 (-1),O3 (-1),Q8] 198));have f{G}(h:G:=by
 refine hJ 4 5 (λK a=>?ca) λK a=>?cb
 case' ca=>
  go_simp;refine a _ _ ?_;clear a K;refine wbZ 5 ?_;refine wbZ 6 ?_
 case' cb=>
  go_simp;refine a _ _ ?_;clear a K;refine hJ 4 6 (λK a=>?cc) λK a=>?cd
 case' cc=>
  go_simp;refine a _ _ ?_;clear a K;refine wbZ 6 ?_
 case' cd=>
  go_simp;refine a _ _ ?_;clear a K;refine wbZ 4 ?_
 all_goals
  refine WL 7 λK a=>?_;refine step_append_lies _ rfl _ _ 77 rfl H 198 T _ 3 40 ly O S M N rfl Pm _ _ _ rfl (E.drew.alloc _) (O7 b.heap.size 0) 1 1 [O3 (-1),O3 (-1),Q8] rfl rfl (Yw _ _ rfl _ _ _) (tG _ _) Pm (by have:=q.out;unfold maxLen;omega) (by have:=q.out;omega) RQ (b.heap.size+1) P7 ?_
  intro aF aD U aC au ap _;refine a _ _ ?_;clear a K;have ad:b.grownBy U k.ownBlock:=PD (PD (a:=b.drew) ⟨rfl,rfl,rfl,Qp,λ_ _ _=>rfl⟩ (hG _ _ _)) au;have ah:=Y (i.sD (-1) (-1) (a:=.slice (some (O7 aF 0)) (c.Pz.length+1) aD) ad aC);have aG:U.cell? (O7 H 1)=some k/\U.frozen? (O7 H 1)=false:=by
   have am:some H≠k.ownBlock:=λd=>by
    obtain⟨e,aj⟩:=QM i.ro.row d.symm;exact RG aj i.gw Pm rfl
   have ai:=ad.block H I am;exact⟨(gs (w:=b) (a:=(O7 H 1)) ai).trans r,(g6 (w:=b) (a:=(O7 H 1)) ai).trans s⟩
  obtain⟨aV,aW⟩:=aG;clear ap r s C A B D;have aJ:=q.out;refine wt 8 (PL H 0) ?_;refine wt 9 (PL H 1) ?_;refine wbZ 10 ?_;refine ha Qs ?_ _;go_simp;go_wp2;go_ret;exact⟨rfl,⟨_,_,_,_,ah.out.1⟩,(Ql.of z (P6 F.out)).trans ah.out.2⟩):=O6 h;exact tN):=O6 h;exact s1):=O6 h;exact sd
def arA (n:Nat)(x:Ro)(bN:c.Pz[n]? = some x) :
  Pq 105 #[PL H 0,O3 (n:Int),O3 (-1)] w λd ac=>d=PK (O3 (c.Pz.length:Int))/\Qx H R ac ⟨c.objs,c.Pz++[⟨(n:Int),(-1),[]⟩]⟩/\Ql Th H w ac:=by
 have f{G}(h:G:=by
 have am:Pn w (w.alloc (.cells #[O3 (n:Int),O3 (-1),Q8] 198)):=QJ;obtain⟨aJ,ak⟩:=r9 (h.fH am) n x bN;clear bN;have aj:=Zw l _ (QY h.ob.row) (-1) (.inl Pm) (w.alloc (.cells #[O3 (n:Int),O3 (-1),Q8] 198));exact Eg):=O6 h;exact sd
def arC (a8:Nat)(y:Ob)(ad:c.objs[a8]? = some y) :
  Pq 105 #[PL H 0,O3 (-1),O3 (a8:Int)] w λd ac=>d=PK (O3 (c.Pz.length:Int))/\Qx H R ac ⟨c.objs,c.Pz++[⟨(-1),(a8:Int),[]⟩]⟩/\Ql Th H w ac:=by
 have f{G}(h:G:=by
 have aC:Pn w (w.alloc (.cells #[O3 (-1),O3 (a8:Int),Q8] 198)):=QJ;have am:=Yx k _ (QY h.ro.row) (-1) (.inl Pm) (w.alloc (.cells #[O3 (-1),O3 (a8:Int),Q8] 198));obtain⟨aV,aJ⟩:=Lj (h.fH aC) a8 y ad;clear ad;go_enter func105,ntmps105;go_wp2_with fail;refine cm am ?_;rintro d g ⟨rfl,o⟩;rw[o];clear o;go_wp2_with fail;refine cm aJ ?_;have f{G}(h:G:=by
 obtain⟨b,t⟩:=xE (w.alloc (.cells #[O3 (-1),O3 (a8:Int),Q8] 198));have f{G}(h:G:=by
 refine hJ 4 5 (λK a=>?ca) λK a=>?cb
 case' ca=>
  go_simp;refine a _ _ ?_;clear a K;refine wbZ 5 ?_;refine wbZ 6 ?_
 case' cb=>
  go_simp;refine a _ _ ?_;clear a K;refine hJ 4 6 (λK a=>?cc) λK a=>?cd
 case' cc=>
  go_simp;refine a _ _ ?_;clear a K;refine wbZ 6 ?_
 case' cd=>
  go_simp;refine a _ _ ?_;clear a K;refine wbZ 4 ?_
 all_goals
  refine WL 7 λK a=>?_;refine step_append_lies _ rfl _ _ 77 rfl H 198 T _ 3 40 ly O S M N rfl Pm _ _ _ rfl (E.drew.alloc _) (O7 b.heap.size 0) 1 1 [O3 (-1),O3 (a8:Int),Q8] rfl rfl (Yw _ _ rfl _ _ _) (tG _ _) Pm (by have:=q.out;unfold maxLen;omega) (by have:=q.out;omega) RQ (b.heap.size+1) P7 ?_
  intro aG aF U aD ax au _;refine a _ _ ?_;clear a K;have ah:b.grownBy U k.ownBlock:=PD (PD (a:=b.drew) ⟨rfl,rfl,rfl,Qp,λ_ _ _=>rfl⟩ (hG _ _ _)) ax;have ai:=Y (i.sD (-1) (a8:Int) (a:=.slice (some (O7 aG 0)) (c.Pz.length+1) aF) ah aD);have aI:U.cell? (O7 H 1)=some k/\U.frozen? (O7 H 1)=false:=by
   have ap:some H≠k.ownBlock:=λd=>by
    obtain⟨e,ak⟩:=QM i.ro.row d.symm;exact RG ak i.gw Pm rfl
   have aj:=ah.block H I ap;exact⟨(gs (w:=b) (a:=(O7 H 1)) aj).trans r,(g6 (w:=b) (a:=(O7 H 1)) aj).trans s⟩
  obtain⟨aX,aY⟩:=aI;clear au r s C A B D;have aW:=q.out;refine wt 8 (PL H 0) ?_;refine wt 9 (PL H 1) ?_;refine wbZ 10 ?_;refine ha Qs ?_ _;go_simp;go_wp2;go_ret;exact⟨rfl,⟨_,_,_,_,ai.out.1⟩,(Ql.of z (P6 F.out)).trans ai.out.2⟩):=O6 h;exact tN):=O6 h;exact s1):=O6 h;exact sd
def RM (n:Nat)(x:Ro)(bN:c.Pz[n]? = some x)(a8:Nat)(y:Ob)(ad:c.objs[a8]? = some y) :
  Pq 105 #[PL H 0,O3 (n:Int),O3 (a8:Int)] w λd ac=>d=PK (O3 (c.Pz.length:Int))/\Qx H R ac ⟨c.objs,c.Pz++[⟨(n:Int),(a8:Int),[]⟩]⟩/\Ql Th H w ac:=by
 have f{G}(h:G:=by
 have aj:Pn w (w.alloc (.cells #[O3 (n:Int),O3 (a8:Int),Q8] 198)):=QJ;obtain⟨aV,aJ⟩:=r9 (h.fH aj) n x bN;clear bN;obtain⟨aW,aI⟩:=Lj (h.fH aj) a8 y ad;clear ad;go_enter func105,ntmps105;go_wp2_with fail;refine cm aJ ?_;rintro d g ⟨rfl,o⟩;rw[o];clear o;go_wp2_with fail;refine cm aI ?_;have f{G}(h:G:=by
 obtain⟨b,t⟩:=xE (w.alloc (.cells #[O3 (n:Int),O3 (a8:Int),Q8] 198));have f{G}(h:G:=by
 refine hJ 4 5 (λK a=>?ca) λK a=>?cb
 case' ca=>
  go_simp;refine a _ _ ?_;clear a K;refine wbZ 5 ?_;refine wbZ 6 ?_
 case' cb=>
  go_simp;refine a _ _ ?_;clear a K;refine hJ 4 6 (λK a=>?cc) λK a=>?cd
 case' cc=>
  go_simp;refine a _ _ ?_;clear a K;refine wbZ 6 ?_
 case' cd=>
  go_simp;refine a _ _ ?_;clear a K;refine wbZ 4 ?_
 all_goals
  refine WL 7 λK a=>?_;refine step_append_lies _ rfl _ _ 77 rfl H 198 T _ 3 40 ly O S M N rfl Pm _ _ _ rfl (E.drew.alloc _) (O7 b.heap.size 0) 1 1 [O3 (n:Int),O3 (a8:Int),Q8] rfl rfl (Yw _ _ rfl _ _ _) (tG _ _) Pm (by have:=q.out;unfold maxLen;omega) (by have:=q.out;omega) RQ (b.heap.size+1) P7 ?_
  intro aF aD U aC ax au _;refine a _ _ ?_;clear a K;have ah:b.grownBy U k.ownBlock:=PD (PD (a:=b.drew) ⟨rfl,rfl,rfl,Qp,λ_ _ _=>rfl⟩ (hG _ _ _)) ax;have ai:=Y (i.sD (n:Int) (a8:Int) (a:=.slice (some (O7 aF 0)) (c.Pz.length+1) aD) ah aC);have aG:U.cell? (O7 H 1)=some k/\U.frozen? (O7 H 1)=false:=by
   have ap:some H≠k.ownBlock:=λd=>by
    obtain⟨e,am⟩:=QM i.ro.row d.symm;exact RG am i.gw Pm rfl
   have ak:=ah.block H I ap;exact⟨(gs (w:=b) (a:=(O7 H 1)) ak).trans r,(g6 (w:=b) (a:=(O7 H 1)) ak).trans s⟩
  obtain⟨aY,aZ⟩:=aG;clear au r s C A B D;have aX:=q.out;refine wt 8 (PL H 0) ?_;refine wt 9 (PL H 1) ?_;refine wbZ 10 ?_;refine ha Qs ?_ _;go_simp;go_wp2;go_ret;exact⟨rfl,⟨_,_,_,_,ai.out.1⟩,(Ql.of z (P6 F.out)).trans ai.out.2⟩):=O6 h;exact tN):=O6 h;exact s1):=O6 h;exact sd
end
structure Mo.Ok (M:Mo):Prop where
 out:∀ (i:Nat) x,M.Pz[i]? = some x->-1<=x.outer/\x.outer<i
 obj:∀ (i:Nat) x,M.Pz[i]? = some x->x.f6 = -1\/∃ j:Nat,x.f6=j/\j<M.objs.length
 up:∀ (i:Nat) x,M.objs[i]? = some x->il Pr.name x.ps
 uc:∀ (i:Nat) x,M.Pz[i]? = some x->il Ce.name x.cs
def Mo.nD (c:Mo)(b:Py):Nat->Int->Int
 | 0,_=>-1
 | d+1,a=>match c.ro a with
  | none=>-1
  | some x=>if c.has a b then a else c.nD b d x.outer
def Mo.find (c:Mo)(a:Int)(b:Py):Int:=c.nD b (c.Pz.length+1) a
def GM {c:Mo}(n:c.Ok)(d:Py):∀ (a:Nat) (e:Int),e<a->c.ik d e (c.nD d (a+1) e)
 | a,e,r=>by
  rw[Mo.nD]
  rcases QF c e with ⟨i,_⟩|⟨b,x,rfl,f,q⟩
  ·rw[i];exact .out e i
  ·rw[q]
   show c.ik d b (if c.has b d=true then (b:Int) else c.nD d a x.outer)
   cases j:c.has b d with
   | true=>rw[fL rfl];exact .here b x f j
   | false=>
    rw[fK Pm];have o:=n.out b x f;refine .on b x _ f j o.2 ?_
    cases a with
    | zero=>omega
    | succ a=>exact GM n d a x.outer O9
def aFu {c:Mo}{a:Int}{x:Ro}(h:c.ro a=some x):a<c.Pz.length:=by
 rcases QF c a with ⟨b,_⟩|⟨e,y,rfl,d,_⟩
 ·rw[b] at h;cases h
 ·have:=(gr.1 d).1;omega
def arX {c:Mo}(i:c.Ok)(a:Int)(b:Py):c.ik b a (c.find a b):=by
 unfold Mo.find
 by_cases d:a<c.Pz.length
 ·exact GM i b _ a d
 ·have e:c.ro a=none:=by
   cases f:c.ro a with
   | none=>rfl
   | some x=>exact absurd (aFu f) d
  rw[Mo.nD,e];exact .out a e
def Mo.put (c:Mo)(a:Int)(e:Py)(v:Va)(fx:Bool):Int × Mo:=
 match c.ob a with
 | none=>(7,c)
 | some x=>match fP e x.ps with
  | none=>(0,c.Uh a.toNat ⟨x.code,x.ps++[⟨e,v,fx⟩]⟩)
  | some d=>match x.ps[d]? with
   | none=>(0,c)
   | some b=>(0,c.Uh a.toNat ⟨x.code,x.ps.set d ⟨b.name,v,b.fixed⟩⟩)
def Mo.cut (c:Mo)(b:Int)(e:Py):Bool × Mo:=
 match c.ob b with
 | none=>(true,c)
 | some x=>match fP e x.ps with
  | none=>(true,c)
  | some a=>match x.ps[a]? with
   | none=>(true,c)
   | some d=>if d.fixed then (false,c) else (true,c.Uh b.toNat ⟨x.code,x.ps.eraseIdx a⟩)
def Mo.f4 (c:Mo)(d:Int)(b:Py)(a:Int)(e:Va):Int × Mo:=
 match c.ro d with
 | none=>(7,c)
 | some x=>if x.f6≠-1 then (1,c) else match fC b x.cs with
  | some _=>(9,c)
  | none=>(0,c.Tj d.toNat ⟨x.outer,x.f6,x.cs++[⟨b,e,a,!(a==1||a==2)⟩]⟩)
def Mo.start (c:Mo)(d:Int)(e:Py)(f:Va):Int × Mo:=
 match c.ro d with
 | none=>(7,c)
 | some x=>match fC e x.cs with
  | none=>(7,c)
  | some b=>match x.cs[b]? with
   | none=>(7,c)
   | some a=>(0,c.Tj d.toNat ⟨x.outer,x.f6,x.cs.set b ⟨a.name,f,a.kind,true⟩⟩)
def Mo.read (c:Mo)(d:Int)(b:Py):Va × Int:=
 match c.ic d b with
 | some a=>if a.ready then (a.v,0) else (⟨0,0,⟨#[]⟩⟩,6)
 | none=>match c.gv (c.SI d) b with
  | some a=>(a.v,0)
  | none=>(⟨0,0,⟨#[]⟩⟩,7)
def Mo.write (c:Mo)(b:Int)(d:Py)(e:Va):Int × Mo:=
 if c.has b d then
  match c.ic b d with
  | none=>c.put (c.SI b) d e false
  | some a=>if a.ready=false then (6,c) else if a.kind=2 then (1,c) else if a.kind=3 then (5,c) else
   match c.ro b with
   | none=>(7,c)
   | some x=>match fC d x.cs with
    | none=>(7,c)
    | some f=>(0,c.Tj b.toNat ⟨x.outer,x.f6,x.cs.set f ⟨a.name,e,a.kind,a.ready⟩⟩)
 else (7,c)
def Mo.drop (c:Mo)(a:Int)(b:Py):Bool × Mo:=
 match c.ic a b with
 | none=>c.cut (c.SI a) b
 | some d=>if d.kind≠4 then (false,c) else
  match c.ro a with
  | none=>(false,c)
  | some x=>match fC b x.cs with
   | none=>(false,c)
   | some e=>(true,c.Tj a.toNat ⟨x.outer,x.f6,x.cs.eraseIdx e⟩)
def Mo.Qj (c:Mo)(e:Int):Mo:=⟨c.objs++[⟨e,[]⟩],c.Pz⟩
def Mo.scope (c:Mo)(b a:Int):Mo:=⟨c.objs,c.Pz++[⟨if (c.ro b).isSome then b else -1,if (c.ob a).isSome then a else -1,[]⟩]⟩
section
variable (h:Qx H R w c)
include h
def Qx.lt:H<w.heap.size:=by
 obtain⟨_,_,_,_,h⟩:=h;exact h.c.2.2.2.2
def Qx.fH (a:Pn w g):Qx H R g c:=by
 obtain⟨l,k,p,m,h⟩:=h;exact⟨l,k,p,m,h.fH a⟩
def Qx.same (a:Pn w g):Qx H R g c/\Ql Th H w g:=⟨h.fH a,Ql.of a (P6 h.lt)⟩
def aFv (t:c.Small K)(s:K<=1000000000)(f:Int)(a:Py)(b:Va)(fx:Bool) :
  Pq 56 #[hP H,O3 f,Pj a,vA b,Pv fx] w λq i=>q=PK (U4 (c.put f a b fx).1)/\Qx H R i (c.put f a b fx).2/\Ql Th H w i:=by
 have C:=h;obtain⟨l,k,p,m,h⟩:=h
 rcases SA c f with ⟨z,_⟩|⟨e,x,rfl,u,A⟩
 ·refine(awn h f a b fx z).mono ?_;rintro q i ⟨rfl,d⟩;have o:c.put f a b fx=(7,c):=by unfold Mo.put;rw[z]
  rw[o];exact⟨rfl,C.same d⟩
 ·
  cases j:fP a x.ps with
  | none=>
   refine(BK h t s e x u a b fx j).mono ?_;rintro q i ⟨rfl,⟨d,n⟩,r⟩;have o:c.put e a b fx=(0,c.Uh e ⟨x.code,x.ps++[⟨a,b,fx⟩]⟩):=by unfold Mo.put;rw[A];simp only[j,iF]
   rw[o];exact⟨rfl,⟨l,k,d,m,n⟩,r⟩
  | some d=>
   have B:d<x.ps.length:=by
    obtain⟨n,_⟩:=jf.1 j;exact n
   have v:x.ps[d]? = some x.ps[d]:=ga B;refine(J1 h t s e x u a b fx d _ j v).mono ?_;rintro q i ⟨rfl,n,r⟩;have o:c.put e a b fx=(0,c.Uh e ⟨x.code,x.ps.set d ⟨(x.ps[d]).name,b,(x.ps[d]).fixed⟩⟩):=by unfold Mo.put;rw[A];simp only[j,v,iF]
   rw[o];exact⟨rfl,⟨l,k,p,m,n⟩,r⟩
def uH (j:c.Ok)(f:c.Small K)(e:K<=1000000000)(a:Int)(b:Py) :
  Pq 195 #[hP H,O3 a,Pj b] w λi d=>i=PK (O3 (c.find a b))/\Pn w d:=by
 obtain⟨l,k,p,m,h⟩:=h;exact VV h f e a _ b (arX j a b)
end
section
variable (h:Qx H R w c) (i:c.Small K) (f:K<=1000000000) (d:Int) (a:Py)
include h i f d a
def aAg :
  Pq 290 #[hP H,O3 d,Pj a] w λs q=>s=PK (.tuple #[vA (c.read d a).1,U4 (c.read d a).2])/\Pn w q:=by
 obtain⟨l,k,p,m,h⟩:=h
 cases b:c.ic d a with
 | some o=>
  have j:=arO h i f d a b
  cases n:o.ready with
  | true=>
   rw[n,fL rfl] at j;have e:c.read d a=(o.v,0):=by unfold Mo.read;simp only[b,n,hz]
   rw[e];exact j
  | false=>
   rw[n,fK Pm] at j;have e:c.read d a=(⟨0,0,⟨#[]⟩⟩,6):=by unfold Mo.read;simp only[b,n];rfl
   rw[e];exact j
 | none=>
  cases j:c.gv (c.SI d) a with
  | none=>
   have e:c.read d a=(⟨0,0,⟨#[]⟩⟩,7):=by unfold Mo.read;simp only[b,j]
   rw[e];exact AW h i f d a b _ 0 0 ⟨#[]⟩ rfl _ (λr o=>arN (h.fH o) i f _ a j)
  | some n=>
   have e:c.read d a=(n.v,0):=by unfold Mo.read;simp only[b,j]
   rw[e];exact AW h i f d a b _ n.v.k n.v.n n.v.s rfl _ (λr o=>Od (h.fH o) i f _ a j)
def X4 (b:Int)(e:Va) :
  Pq 128 #[hP H,O3 d,Pj a,O3 b,vA e] w λv r=>v=PK (U4 (c.f4 d a b e).1)/\Qx H R r (c.f4 d a b e).2/\Ql Th H w r:=by
 have C:=h;obtain⟨l,k,p,m,h⟩:=h
 rcases QF c d with ⟨E,_⟩|⟨j,x,rfl,u,B⟩
 ·refine(arU h d a b e E).mono ?_;rintro v r ⟨rfl,s⟩;have q:c.f4 d a b e=(7,c):=by unfold Mo.f4;rw[E]
  rw[q];exact⟨rfl,C.same s⟩
 ·by_cases n:x.f6 = -1
  ·
   cases o:fC a x.cs with
   | some t=>
    have z:t<x.cs.length:=by
     obtain⟨D,_⟩:=jf.1 o;exact D
    refine(aln h i f j x u a b e n t _ o (ga z)).mono ?_;rintro v r ⟨rfl,s⟩;have q:c.f4 j a b e=(9,c):=by unfold Mo.f4;rw[B];simp[n,o]
    rw[q];exact⟨rfl,C.same s⟩
   | none=>
    have q:c.f4 j a b e=(0,c.Tj j ⟨x.outer,x.f6,x.cs++[⟨a,e,b,!(b==1||b==2)⟩]⟩):=by unfold Mo.f4;rw[B];simp[n,o]
    rw[q]
    by_cases A:b=1
    ·have t:(!(b==1||b==2))=false:=by rw[A];rfl
     rw[t];refine(aoU h i f j x u a b e n o A).mono ?_;exact yw
    ·by_cases z:b=2
     ·have t:(!(b==1||b==2))=false:=by rw[z];rfl
      rw[t];refine(Oo h i f j x u a b e n o z).mono ?_;exact yw
     ·have t:(!(b==1||b==2))=true:=by simp[A,z]
      rw[t];refine(alp h i f j x u a b e n o A z).mono ?_;exact yw
  ·refine(arV h i f j x u a b e n).mono ?_;rintro v r ⟨rfl,s⟩;have q:c.f4 j a b e=(1,c):=by unfold Mo.f4;rw[B];simp[n]
   rw[q];exact⟨rfl,C.same s⟩
end
def rV {a:Int}{b:Py}:(c.ic a b=none/\(c.ro a=none\/∃ (d:Nat) (x:Ro),a=d/\c.Pz[d]? = some x/\c.ro a=some x/\fC b x.cs=none)) \/
  ∃ (d:Nat) (x:Ro) (i:Nat) (e:Ce),a=d/\c.Pz[d]? = some x/\c.ro a=some x/\fC b x.cs=some i/\x.cs[i]? = some e/\c.ic a b=some e:=by
 rcases QF c a with ⟨q,_⟩|⟨d,x,rfl,o,f⟩
 ·exact .inl ⟨by unfold Mo.ic;rw[q];rfl,.inl q⟩
 ·rcases WX (λe=>iw b e.name) x.cs with ⟨j,n⟩|⟨i,e,j,n,r,_⟩
  ·exact .inl ⟨by unfold Mo.ic;rw[f];exact n,.inr ⟨d,x,rfl,o,f,j⟩⟩
  ·exact .inr ⟨d,x,i,e,rfl,o,f,j,n,by unfold Mo.ic;rw[f];exact r⟩
def Ls {a:Int}{d:Py}:(c.gv a d=none/\(c.ob a=none\/∃ (b:Nat) (x:Ob),a=b/\c.objs[b]? = some x/\c.ob a=some x/\fP d x.ps=none)) \/
  ∃ (b:Nat) (x:Ob) (i:Nat) (e:Pr),a=b/\c.objs[b]? = some x/\c.ob a=some x/\fP d x.ps=some i/\x.ps[i]? = some e/\c.gv a d=some e:=by
 rcases SA c a with ⟨q,_⟩|⟨b,x,rfl,o,f⟩
 ·exact .inl ⟨by unfold Mo.gv;rw[q];rfl,.inl q⟩
 ·rcases WX (λe=>iw d e.name) x.ps with ⟨j,n⟩|⟨i,e,j,n,r,_⟩
  ·exact .inl ⟨by unfold Mo.gv;rw[f];exact n,.inr ⟨b,x,rfl,o,f,j⟩⟩
  ·exact .inr ⟨b,x,i,e,rfl,o,f,j,n,by unfold Mo.gv;rw[f];exact r⟩
def Ys (h:Qx H R w c)(t:c.Small K)(s:K<=1000000000)(d:Int)(a:Py)(b:Va) :
  Pq 198 #[hP H,O3 d,Pj a,vA b] w λq e=>q=PK (U4 (c.start d a b).1)/\Qx H R e (c.start d a b).2/\Ql Th H w e:=by
 have D:=h;obtain⟨l,k,p,m,h⟩:=h
 rcases rV (c:=c) (a:=d) (b:=a) with ⟨B,j⟩|⟨i,x,v,o,rfl,A,r,f,u,_⟩
 ·refine(PA h t s d a b B).mono ?_;rintro q e ⟨rfl,z⟩;have n:c.start d a b=(7,c):=by
   unfold Mo.start
   rcases j with j|⟨i,x,rfl,_,r,f⟩
   ·rw[j]
   ·rw[r];simp only[f]
  rw[n];exact⟨rfl,D.same z⟩
 ·refine(alj h t s i x A a b v o f u).mono ?_;rintro q e ⟨rfl,z,C⟩;have n:c.start i a b=(0,c.Tj i ⟨x.outer,x.f6,x.cs.set v ⟨o.name,b,o.kind,true⟩⟩):=by unfold Mo.start;rw[r];simp only[f,u,iF]
  rw[n];exact⟨rfl,⟨l,k,p,m,z⟩,C⟩
section
variable (h:Qx H R w c) (q:c.Ok) (ay:c.Small K) (b:K<=1000000000)
include h q ay b
def Kw (aL:Int)(a:Py) :
  Pq 315 #[hP H,O3 aL,Pj a] w λj d=>j=PK (Pv (c.cut aL a).1)/\Qx H R d (c.cut aL a).2/\Ql Th H w d:=by
 have z:=h;obtain⟨l,k,p,m,h⟩:=h
 rcases Ls (c:=c) (a:=aL) (d:=a) with ⟨C,X⟩|⟨n,x,A,e,rfl,t,o,f,s,E⟩
 ·refine(Mk h ay b aL a C).mono ?_;rintro j d ⟨rfl,r⟩;have i:c.cut aL a=(true,c):=by
   unfold Mo.cut
   rcases X with X|⟨n,x,rfl,_,o,f⟩
   ·rw[X]
   ·rw[o];simp only[f]
  rw[i];exact⟨rfl,z.same r⟩
 ·
  cases b8:e.fixed with
  | true=>
   refine(aoM h ay b n a E b8).mono ?_;rintro j d ⟨rfl,r⟩;have i:c.cut n a=(false,c):=by unfold Mo.cut;rw[o];simp only[f,s,b8,hz]
   rw[i];exact⟨rfl,z.same r⟩
  | false=>
   refine(NC h ay b n x t a A e f s b8 (q.up n x t)).mono ?_;rintro j d ⟨rfl,⟨F,B⟩,D⟩;have i:c.cut n a=(true,c.Uh n ⟨x.code,x.ps.eraseIdx A⟩):=by unfold Mo.cut;rw[o];simp[f,s,b8]
   rw[i];exact⟨rfl,⟨l,k,F,m,B⟩,D⟩
def aAi (d:Int)(a:Py) :
  Pq 297 #[hP H,O3 d,Pj a] w λr j=>r=PK (Pv (c.drop d a).1)/\Qx H R j (c.drop d a).2/\Ql Th H w j:=by
 have z:=h;obtain⟨l,k,p,m,h⟩:=h
 rcases rV (c:=c) (a:=d) (b:=a) with ⟨f,_⟩|⟨n,x,A,e,rfl,t,F,s,E,f⟩
 ·have i:c.drop d a=c.cut (c.SI d) a:=by unfold Mo.drop;rw[f]
  rw[i];exact Nn h ay b d a f _ _ (λu o=>Kw (z.fH o) q ay b _ a)
 ·by_cases o:e.kind=4
  ·refine(awf h ay b n x t a A e s E o (q.uc n x t)).mono ?_;rintro r j ⟨rfl,⟨B,C⟩,D⟩;have i:c.drop n a=(true,c.Tj n ⟨x.outer,x.f6,x.cs.eraseIdx A⟩):=by unfold Mo.drop;rw[f,F];simp[s,o]
   rw[i];exact⟨rfl,⟨l,k,p,B,C⟩,D⟩
  ·refine(aoN h ay b n a f o).mono ?_;rintro r j ⟨rfl,u⟩;have i:c.drop n a=(false,c):=by unfold Mo.drop;rw[f];simp[o]
   rw[i];exact⟨rfl,z.same u⟩
end
section
variable (h:Qx H R w c) (e:c.Small K) (d:K<=1000000000)
include h e d
def yC (i:Int)(a:Py)(b:Va) :
  Pq 267 #[hP H,O3 i,Pj a,vA b] w λv o=>v=PK (U4 (c.write i a b).1)/\Qx H R o (c.write i a b).2/\Ql Th H w o:=by
 have D:=h;obtain⟨l,k,p,m,h⟩:=h
 cases hhas:c.has i a with
 | false=>
  refine(P4 h e d i a b hhas).mono ?_;rintro v o ⟨rfl,u⟩;have f:c.write i a b=(7,c):=by unfold Mo.write;rw[hhas];rfl
  rw[f];exact⟨rfl,D.same u⟩
 | true=>
  rcases rV (c:=c) (a:=i) (b:=a) with ⟨s,_⟩|⟨n,x,t,j,rfl,B,E,q,C,s⟩
  ·have I:(c.gv (c.SI i) a).isSome=true:=by
    unfold Mo.has at hhas;rw[s] at hhas;simpa using hhas
   rcases Ls (c:=c) (a:=c.SI i) (d:=a) with ⟨N,_⟩|⟨L,y,t,r,F,O,E,q,M,_⟩
   ·rw[N] at I;cases I
   ·refine(Nw h e d i a b s L y F O t r q M).mono ?_;rintro v o ⟨rfl,z,A⟩;have f:c.write i a b=(0,c.Uh L ⟨y.code,y.ps.set t ⟨r.name,b,r.fixed⟩⟩):=by
     unfold Mo.write Mo.put;rw[hhas,fL rfl,s];simp only[E,q,M];rw[F,iF]
    rw[f];exact⟨rfl,⟨l,k,p,m,z⟩,A⟩
  ·
   cases r:j.ready with
   | false=>
    refine(ai4 h e d n x B a b t j q C r).mono ?_;rintro v o ⟨rfl,u⟩;have f:c.write n a b=(6,c):=by unfold Mo.write;rw[hhas,fL rfl,s];simp[r]
    rw[f];exact⟨rfl,D.same u⟩
   | true=>
    by_cases z:j.kind=2
    ·refine(ai5 h e d n x B a b t j q C r z).mono ?_;rintro v o ⟨rfl,u⟩;have f:c.write n a b=(1,c):=by unfold Mo.write;rw[hhas,fL rfl,s];simp[r,z]
     rw[f];exact⟨rfl,D.same u⟩
    ·by_cases A:j.kind=3
     ·refine(aoT h e d n x B a b t j q C r A).mono ?_;rintro v o ⟨rfl,u⟩;have f:c.write n a b=(5,c):=by unfold Mo.write;rw[hhas,fL rfl,s];simp[r,A]
      rw[f];exact⟨rfl,D.same u⟩
     ·refine(OC h e d n x B a b t j q C r z A).mono ?_;rintro v o ⟨rfl,F,I⟩;have f:c.write n a b=(0,c.Tj n ⟨x.outer,x.f6,x.cs.set t ⟨j.name,b,j.kind,j.ready⟩⟩):=by unfold Mo.write;rw[hhas,fL rfl,s];simp[r,z,A,E,q]
      rw[f];exact⟨rfl,⟨l,k,p,m,F⟩,I⟩
def At (i a:Int)(A:i = -1\/(c.ro i).isSome=true)(t:a = -1\/(c.ob a).isSome=true) :
  Pq 105 #[hP H,O3 i,O3 a] w λD s=>D=PK (O3 (c.Pz.length:Int))/\Qx H R s (c.scope i a)/\Ql Th H w s:=by
 obtain⟨l,k,p,m,h⟩:=h;have C:c.ro (-1)=none:=rfl;have B:c.ob (-1)=none:=rfl
 rcases QF c i with ⟨z,_⟩|⟨f,x,rfl,u,v⟩
 ·have E:i = -1:=A.resolve_right (by rw[z];simp)
  subst E
  rcases SA c a with ⟨r,_⟩|⟨b,y,rfl,n,q⟩
  ·have o:a = -1:=t.resolve_right (by rw[r];simp)
   subst o;exact NN h e d
  ·have j:c.scope (-1) b=⟨c.objs,c.Pz++[⟨-1,b,[]⟩]⟩:=by unfold Mo.scope;rw[C,q];rfl
   rw[j];exact arC h e d b y n
 ·rcases SA c a with ⟨r,_⟩|⟨b,y,rfl,n,q⟩
  ·have o:a = -1:=t.resolve_right (by rw[r];simp)
   subst o;have j:c.scope f (-1)=⟨c.objs,c.Pz++[⟨f,-1,[]⟩]⟩:=by unfold Mo.scope;rw[v,B];rfl
   rw[j];exact arA h e d f x u
  ·have j:c.scope f b=⟨c.objs,c.Pz++[⟨f,b,[]⟩]⟩:=by unfold Mo.scope;rw[v,q];rfl
   rw[j];exact RM h e d f x u b y n
def Dz (b:Int)(a:Py):Pq 55 #[hP H,O3 b,Pj a] w λi f=>i=PK (Pv (c.has b a))/\Pn w f:=by
 obtain⟨l,k,p,m,h⟩:=h;exact Zy h e d b a
def aFw (b:Int)(a:Py):Pq 124 #[hP H,O3 b,Pj a] w λi f=>i=PK (.tuple #[rK (c.gv b a),Pv (c.gv b a).isSome])/\Pn w f:=by
 obtain⟨l,k,p,m,h⟩:=h;exact jQ h e d b a
def aAj (b:Int)(a:Py):Pq 353 #[hP H,O3 b,Pj a] w λi f=>i=PK (O3 (c.kindOf b a))/\Pn w f:=by
 obtain⟨l,k,p,m,h⟩:=h;exact sI h e d b a
end
section
variable (h:Qx H R w c)
include h
def xZ (a:Int):Pq 209 #[hP H,O3 a] w λd b=>d=PK (O3 (c.gn a))/\b=w:=by
 obtain⟨l,k,p,m,h⟩:=h;exact Ze h a
def DY (a:Int):Pq 125 #[hP H,O3 a] w λd b=>d=PK (O3 (c.SI a))/\b=w:=by
 obtain⟨l,k,p,m,h⟩:=h;exact y0 h a
def awq (a:Int):Pq 252 #[hP H,O3 a] w λd b=>d=PK (O3 (c.hA a))/\b=w:=by
 obtain⟨l,k,p,m,h⟩:=h;exact B8 h a
def v7 (e:c.Small K)(d:K<=1000000000)(a:Int) :
  Pq 49 #[hP H,O3 a] w λf b=>f=PK (O3 c.objs.length)/\Qx H R b (c.Qj a)/\Ql Th H w b:=by
 obtain⟨l,k,p,m,h⟩:=h;exact aoP h e d a
end
end
section
variable {α:Type} {b:α->Py} {a:List α}
include α b a
def wW {f:Nat}{i j:α}(h:il b a)(k:a[f]? = some i)(p:b j=b i):il b (a.set f j):=by
 have m:∀ (c:Nat) e,(a.set f j)[c]? = some e->∃ g,a[c]? = some g/\b e=b g:=λc e d=>by
  by_cases n:f=c
  ·subst n;have v:f<a.length:=(gr.1 k).1;rw[hZ v] at d;cases d;exact⟨i,k,p⟩
  ·rw[h9 n] at d;exact⟨e,d,rfl⟩
 intro c l e t d u r;obtain⟨g,w,s⟩:=m c e d;obtain⟨o,z,q⟩:=m l t u;exact h c l g o w z (by rw[<-s,<-q];exact r)
def Ik {f:α}(h:il b a)(k:∀ c ∈ a,(b c).toList≠(b f).toList):il b (a++[f]):=by
 have o:∀ (c:Nat) e,(a++[f])[c]? = some e->(c<a.length/\a[c]? = some e)\/(c=a.length/\e=f):=λc e d=>by
  by_cases l:c<a.length
  ·rw[ht l] at d;exact .inl ⟨l,d⟩
  ·rw[hm O9] at d;have p:=(gr.1 d).1;simp at p;have:c=a.length:=O9;subst this;simp at d;exact .inr ⟨rfl,d.symm⟩
 intro c n e i d q g
 rcases o c e d with ⟨_,m⟩|⟨s,rfl⟩ <;> rcases o n i q with ⟨_,j⟩|⟨r,rfl⟩
 ·exact h c n e i m j g
 ·exact absurd g (k e (gt m))
 ·exact absurd g.symm (k i (gt j))
 ·omega
def Kn {i:Nat}(h:il b a):il b (a.eraseIdx i):=by
 intro j k f g c d e;rw[List.getElem?_eraseIdx] at c d
 split at c <;> split at d
 all_goals
  have:=h _ _ f g c d e;omega
end
def aAk {c:Py}{b:List Pr}(h:fP c b=none):∀ a ∈ b,a.name.toList≠c.toList:=λa d=>by
 have:=jF.1 h a d;simpa[iw] using this
def aAl {c:Py}{b:List Ce}(h:fC c b=none):∀ a ∈ b,a.name.toList≠c.toList:=λa d=>by
 have:=jF.1 h a d;simpa[iw] using this
def uO {α:Type}{c:List α}{a b:Nat}{x y:α}(h:(c.set a x)[b]? = some y):(a=b/\y=x/\a<c.length)\/c[b]? = some y:=by
 by_cases d:a=b
 ·subst d;have e:a<c.length:=by have:=(gr.1 h).1;simpa using this
  rw[hZ e] at h;cases h;exact .inl ⟨rfl,rfl,e⟩
 ·rw[h9 d] at h;exact .inr h
def Mo.Small.mono {c:Mo}{e d:Nat}(h:c.Small e)(a:e<=d):c.Small d:=
 ⟨f9 h.o a,f9 h.r a,λx b=>f9 (h.ps x b) a,λx b=>f9 (h.cs x b) a⟩
structure Mo.Go (M:Mo)(k:Nat):Prop where
 ok:M.Ok
 sm:M.Small k
def Mo.Go.up {a:Mo}{c b:Nat}(h:a.Go c)(d:c<=b):a.Go b:=⟨h.ok,h.sm.mono d⟩
def Mo.Go.Uh {f:Mo}{d n:Nat}{b:Ob}(h:f.Go d)(g:il Pr.name b.ps)(i:b.ps.length<=d+1):(f.Uh n b).Go (d+1):=by
 refine⟨⟨h.ok.out,λc y a=>?_,λc y a=>?_,h.ok.uc⟩,⟨?_,gF h.sm.r,λy bi=>?_,λy bi=>gF (h.sm.cs y bi)⟩⟩
 ·have:=h.ok.obj c y a;simpa[Mo.Uh] using this
 ·rcases uO a with ⟨_,rfl,_⟩|a
  ·exact g
  ·exact h.ok.up c y a
 ·have:=h.sm.o;simp[Mo.Uh];omega
 ·rcases iG bi with bi|rfl
  ·exact gF (h.sm.ps y bi)
  ·exact i
def Mo.Go.Tj {d:Mo}{f n:Nat}{x b:Ro}(h:d.Go f)(bN:d.Pz[n]? = some x)(j:b.outer=x.outer)(g:b.f6=x.f6)(i:il Ce.name b.cs)(k:b.cs.length<=f+1):(d.Tj n b).Go (f+1):=by
 refine⟨⟨λc y a=>?_,λc y a=>?_,h.ok.up,λc y a=>?_⟩,⟨gF h.sm.o,?_,λy bi=>gF (h.sm.ps y bi),λy bi=>?_⟩⟩
 ·rcases uO a with ⟨rfl,rfl,_⟩|a
  ·rw[j];exact h.ok.out n x bN
  ·exact h.ok.out c y a
 ·rcases uO a with ⟨rfl,rfl,_⟩|a
  ·rw[g];exact h.ok.obj n x bN
  ·exact h.ok.obj c y a
 ·rcases uO a with ⟨_,rfl,_⟩|a
  ·exact i
  ·exact h.ok.uc c y a
 ·have:=h.sm.r;simp[Mo.Tj];omega
 ·rcases iG bi with bi|rfl
  ·exact gF (h.sm.cs y bi)
  ·exact k
section
variable {a:Mo} {c:Nat} (h:a.Go c) (aL:Int) (b:Py)
include a c h aL b
def Mo.Go.put (v:Va)(fx:Bool):(a.put aL b v fx).2.Go (c+1):=by
 unfold Mo.put
 rcases SA a aL with ⟨j,_⟩|⟨n,x,rfl,g,k⟩
 ·rw[j];exact h.up (ge _)
 ·rw[k];have m:=h.sm.ps x (gt g);have f:=h.ok.up n x g
  cases d:fP b x.ps with
  | none=>
   simp only[d];exact h.Uh (Ik f (aAk d)) RQ
  | some l=>
   simp only[d]
   cases i:x.ps[l]? with
   | none=>exact h.up (ge _)
   | some e=>exact h.Uh (wW f i rfl) RQ
def Mo.Go.cut:(a.cut aL b).2.Go (c+1):=by
 unfold Mo.cut
 rcases SA a aL with ⟨i,_⟩|⟨n,x,rfl,f,j⟩
 ·rw[i];exact h.up (ge _)
 ·rw[j];have l:=h.sm.ps x (gt f);have g:=h.ok.up n x f
  cases d:fP b x.ps with
  | none=>simp only[d];exact h.up (ge _)
  | some k=>
   simp only[d]
   cases m:x.ps[k]? with
   | none=>exact h.up (ge _)
   | some e=>
    simp only
    split
    ·exact h.up (ge _)
    ·exact h.Uh (Kn g) (by rw[jc];split <;> omega)
end
section
variable {b:Mo} {d:Nat} (h:b.Go d) (c:Int) (a:Py)
include b d h c a
def Mo.Go.f4 (l:Int)(v:Va):(b.f4 c a l v).2.Go (d+1):=by
 unfold Mo.f4
 rcases QF b c with ⟨j,_⟩|⟨n,x,rfl,f,k⟩
 ·rw[j];exact h.up (ge _)
 ·rw[k];have m:=h.sm.cs x (gt f);have i:=h.ok.uc n x f;simp only
  split
  ·exact h.up (ge _)
  ·
   cases g:fC a x.cs with
   | some o=>exact h.up (ge _)
   | none=>
    simp only[iF];exact h.Tj f rfl rfl (Ik i (aAl g)) RQ
def Mo.Go.start (v:Va):(b.start c a v).2.Go (d+1):=by
 unfold Mo.start
 rcases QF b c with ⟨k,_⟩|⟨n,x,rfl,f,l⟩
 ·rw[k];exact h.up (ge _)
 ·rw[l];have o:=h.sm.cs x (gt f);have i:=h.ok.uc n x f
  cases g:fC a x.cs with
  | none=>simp only[g];exact h.up (ge _)
  | some m=>
   simp only[g]
   cases j:x.cs[m]? with
   | none=>exact h.up (ge _)
   | some e=>
    simp only[iF];exact h.Tj f rfl rfl (wW i j rfl) RQ
def Mo.Go.write (v:Va):(b.write c a v).2.Go (d+1):=by
 unfold Mo.write
 split
 ·rcases rV (c:=b) (a:=c) (b:=a) with ⟨g,_⟩|⟨n,x,o,e,rfl,f,l,i,k,g⟩
  ·rw[g];exact h.put _ a v false
  ·have m:=h.sm.cs x (gt f);have j:=h.ok.uc n x f;rw[g];simp only[l,i,iF]
   split
   ·exact h.up (ge _)
   ·split
    ·exact h.up (ge _)
    ·split
     ·exact h.up (ge _)
     ·exact h.Tj f rfl rfl (wW j k rfl) RQ
 ·exact h.up (ge _)
def Mo.Go.drop:(b.drop c a).2.Go (d+1):=by
 unfold Mo.drop
 rcases rV (c:=b) (a:=c) (b:=a) with ⟨g,_⟩|⟨n,x,l,e,rfl,f,k,i,o,g⟩
 ·rw[g];exact h.cut _ a
 ·have m:=h.sm.cs x (gt f);have j:=h.ok.uc n x f;rw[g];simp only[k,i,iF]
  split
  ·exact h.up (ge _)
  ·exact h.Tj f rfl rfl (Kn j) (by show (x.cs.eraseIdx l).length<=_;rw[jc];split <;> omega)
end
def KA {α:Type}(a:α->Py):il a []:=λd e b c h=>by simp at h
def Mo.Go.Qj {b:Mo}{d:Nat}(h:b.Go d)(e:Int):(b.Qj e).Go (d+1):=by
 refine⟨⟨h.ok.out,λn x a=>?_,λn x a=>?_,h.ok.uc⟩,⟨?_,gF h.sm.r,λx a=>?_,λx a=>gF (h.sm.cs x a)⟩⟩
 ·rcases h.ok.obj n x a with c|⟨f,c,g⟩
  ·exact .inl c
  ·exact .inr ⟨f,c,by simp[Mo.Qj];omega⟩
 ·rcases hT n b.objs.length with bN|bN
  ·have c:(b.objs++[(⟨e,[]⟩:Ob)])[n]? = some x:=a;rw[ht bN] at c;exact h.ok.up n x c
  ·have c:(b.objs++[(⟨e,[]⟩:Ob)])[n]? = some x:=a;have f:=gt (by rw[hm bN] at c;exact c)
   rw[gc.1 f];exact KA _
 ·have:=h.sm.o;simp[Mo.Qj];omega
 ·rcases gU.1 a with a|a
  ·exact gF (h.sm.ps x a)
  ·rw[gc.1 a];simp
def Mo.Go.scope {b:Mo}{k:Nat}(h:b.Go k)(c aL:Int):(b.scope c aL).Go (k+1):=by
 have j:∀ (n:Nat) (x:Ro),(b.scope c aL).Pz[n]? = some x->b.Pz[n]? = some x\/(n=b.Pz.length/\x=⟨if (b.ro c).isSome then c else -1,if (b.ob aL).isSome then aL else -1,[]⟩):=λn x a=>by
  have d:(b.Pz++[(⟨if (b.ro c).isSome then c else -1,if (b.ob aL).isSome then aL else -1,[]⟩:Ro)])[n]? = some x:=a
  rcases hT n b.Pz.length with bN|bN
  ·rw[ht bN] at d;exact .inl d
  ·rw[hm bN] at d;have l:=(gr.1 d).1;simp at l;exact .inr ⟨by omega,gc.1 (gt d)⟩
 refine⟨⟨λn x a=>?_,λn x a=>?_,h.ok.up,λn x a=>?_⟩,⟨gF h.sm.o,?_,λx a=>gF (h.sm.ps x a),λx a=>?_⟩⟩
 ·rcases j n x a with a|⟨rfl,rfl⟩
  ·exact h.ok.out n x a
  ·show -1<=(if (b.ro c).isSome=true then c else -1)/\(if (b.ro c).isSome=true then c else -1)<(b.Pz.length:Int)
   rcases QF b c with ⟨g,_⟩|⟨f,y,rfl,bi,i⟩
   ·rw[g];simp;omega
   ·rw[i];have:=(gr.1 bi).1;simp;omega
 ·rcases j n x a with a|⟨rfl,rfl⟩
  ·exact h.ok.obj n x a
  ·show (if (b.ob aL).isSome=true then aL else -1) = -1\/∃ f:Nat,(if (b.ob aL).isSome=true then aL else -1)=f/\f<b.objs.length
   rcases SA b aL with ⟨g,_⟩|⟨f,y,rfl,bi,i⟩
   ·rw[g];exact .inl rfl
   ·rw[i];exact .inr ⟨f,rfl,(gr.1 bi).1⟩
 ·rcases j n x a with a|⟨rfl,rfl⟩
  ·exact h.ok.uc n x a
  ·exact KA _
 ·have:=h.sm.r;simp[Mo.scope];omega
 ·rcases gU.1 a with a|a
  ·exact gF (h.sm.cs x a)
  ·rw[gc.1 a];simp
section
variable {H:Nat} {R:List Px} {w g:Pe} {c:Mo} {l k:Px} {ac m:List Px} {K:Nat}
def NW (h:HP H R w c l k ac m)(ay:c.Small K)(a:K<=1000000000)(n:Nat)(x:Ro)(bN:c.Pz[n]? = some x)(aL:Int)(bA:aL<0\/(c.objs.length:Int)<=aL) :
  Pq 105 #[PL H 0,O3 (n:Int),O3 aL] w λd p=>d=PK (O3 (c.Pz.length:Int))/\Qx H R p ⟨c.objs,c.Pz++[⟨(n:Int),(-1),[]⟩]⟩/\Ql Th H w p:=by
 have f{G}(h:G:=by
 have am:Pn w (w.alloc (.cells #[O3 (n:Int),O3 aL,Q8] 198)):=QJ;obtain⟨aJ,ak⟩:=r9 (h.fH am) n x bN;clear bN;have aj:=Zw l _ (QY h.ob.row) aL (by simpa using bA) (w.alloc (.cells #[O3 (n:Int),O3 aL,Q8] 198));clear bA;exact Eg):=O6 h;exact sd
def awr (h:Qx H R w c)(j:c.Small K)(f:K<=1000000000)(d a:Int)(i:(c.ro d).isSome=true) :
  Pq 105 #[hP H,O3 d,O3 a] w λr e=>r=PK (O3 (c.Pz.length:Int))/\Qx H R e (c.scope d a)/\Ql Th H w e:=by
 rcases QF c d with ⟨o,_⟩|⟨b,x,rfl,p,n⟩
 ·rw[o] at i;cases i
 ·rcases SA c a with ⟨v,s⟩|⟨t,y,rfl,z,u⟩
  ·have q:c.scope b a=⟨c.objs,c.Pz++[⟨b,-1,[]⟩]⟩:=by unfold Mo.scope;rw[n,v];rfl
   rw[q];obtain⟨l,k,ac,m,h⟩:=h;exact NW h j f b x p a s
  ·exact At h j f b t (fU (by rw[n];rfl)) (fU (by rw[u];rfl))
end
end Hp
end Go.Proofs.YticfnaiehdpbmaaGreatDoor
namespace Go.Proofs
open Go.Shelf
def Tryz.lays156_ren:Go.Shelf.Ren:=⟨fun|156=>318|165=>337|166=>282|169=>84|240=>240|241=>351|276=>288|277=>356|n=>n,fun|31=>26|9=>9|3=>3|4=>4|0=>0|20=>20|72=>171|76=>257|70=>169|37=>42|75=>31|127=>240|164=>127|5=>5|80=>175|n=>n,fun|n=>n⟩
def Tryz.lays156:Go.Proofs.Lays.n156 Tryz.prog Tryz.lays156_ren:={
 mixed:=by kernel_rfl
 f156:=Tryz.func318.trans (congrArg some (by kernel_rfl))
 f165:=Tryz.func337.trans (congrArg some (by kernel_rfl))
 f166:=Tryz.func282.trans (congrArg some (by kernel_rfl))
 f169:=Tryz.func84.trans (congrArg some (by kernel_rfl))
 f240:=Tryz.func240.trans (congrArg some (by kernel_rfl))
 f241:=Tryz.func351.trans (congrArg some (by kernel_rfl))
 f276:=Tryz.func288.trans (congrArg some (by kernel_rfl))
 f277:=Tryz.func356.trans (congrArg some (by kernel_rfl))
 t0:=Tryz.underlying0
 a0:=Tryz.isAgg0
 z0:=Tryz.sizeOf0
 v0:=Tryz.zeroValue0
 t3:=Tryz.underlying3
 a3:=Tryz.isAgg3
 z3:=Tryz.sizeOf3
 v3:=Tryz.zeroValue3
 t4:=Tryz.underlying4
 a4:=Tryz.isAgg4
 z4:=Tryz.sizeOf4
 v4:=Tryz.zeroValue4
 t9:=Tryz.underlying9
 a9:=Tryz.isAgg9
 z9:=Tryz.sizeOf9
 v9:=Tryz.zeroValue9
 t20:=Tryz.underlying20
 a20:=Tryz.isAgg20
 z20:=Tryz.sizeOf20
 v20:=Tryz.zeroValue20
 t31:=Tryz.underlying26
 a31:=Tryz.isAgg26
 z31:=Tryz.sizeOf26
 v31:=Tryz.zeroValue26
 t37:=Tryz.underlying42
 a37:=Tryz.isAgg42
 z37:=Tryz.sizeOf42
 v37:=Tryz.zeroValue42
 t70:=Tryz.underlying169
 a70:=Tryz.isAgg169
 z70:=Tryz.sizeOf169
 v70:=Tryz.zeroValue169
 t72:=Tryz.underlying171
 a72:=Tryz.isAgg171
 z72:=Tryz.sizeOf171
 v72:=Tryz.zeroValue171
 t75:=Tryz.underlying31
 a75:=Tryz.isAgg31
 z75:=Tryz.sizeOf31
 v75:=Tryz.zeroValue31
 t76:=Tryz.underlying257
 a76:=Tryz.isAgg257
 z76:=Tryz.sizeOf257
 v76:=Tryz.zeroValue257
 t127:=Tryz.underlying240
 a127:=Tryz.isAgg240
 z127:=Tryz.sizeOf240
 v127:=Tryz.zeroValue240
 t164:=Tryz.underlying127
 a164:=Tryz.isAgg127
 z164:=Tryz.sizeOf127
 v164:=Tryz.zeroValue127 }
def Tryz.Builder_Extra_156:Builder.Extra Tryz.prog Tryz.lays156_ren:={
 sizeBuilder:=by kernel_rfl
 liesBuilder:=by kernel_rfl
 t5:=Tryz.underlying5
 a5:=Tryz.isAgg5
 z5:=Tryz.sizeOf5
 v5:=Tryz.zeroValue5
 infoByte:=by kernel_rfl
 cellsByte:=by kernel_rfl
 sizeByte:=by kernel_rfl
 neB5:=by decide }
open Go.RowKit in
def Tryz.strings_Join_none (a:Option Addr)(c:Nat)(sep:ByteArray)(w:World) :
  Calls Tryz.prog 318 #[.slice a 0 c,.string sep] w λe w'=>e=.returned (.string ⟨#[]⟩)/\w'=w:=Any.strings_Join_none Tryz.lays156 Tryz.Builder_Extra_156 a c sep w
open Go.RowKit in
def Tryz.strings_Join (bk o c:Nat)(xs:List ByteArray)(sep:ByteArray)(w:World)(hcells:∀ (j:Nat) x,xs[j]? = some x->w.cell? ⟨bk,o+j,none⟩=some (.string x))(hbk:bk<w.heap.size)(hN:xs.length<=140737488355328)(hcap:xs.length<=c)(hlen:(Lib.join (xs.map (·.data.toList)) sep.data.toList).length<=140737488355328) :
  Calls Tryz.prog 318 #[.slice (some ⟨bk,o,none⟩) xs.length c,.string sep] w λe w'=>e=.returned (.string ⟨(Lib.join (xs.map (·.data.toList)) sep.data.toList).toArray⟩)/\Below w.heap.size w w':=Any.strings_Join Tryz.lays156 Tryz.Builder_Extra_156 bk o c xs sep w hcells hbk hN hcap hlen
def Tryz.laysM171_ren:Go.Shelf.Ren:=⟨fun|171=>133|243=>208|246=>271|283=>302|284=>303|285=>304|286=>305|129=>326|317=>325|318=>327|319=>328|320=>329|337=>343|338=>344|n=>n,fun|3=>3|9=>9|2=>2|4=>4|171=>319|0=>0|53=>320|37=>42|5=>5|173=>323|212=>341|51=>342|20=>20|213=>343|46=>87|232=>364|233=>365|n=>n,fun|17=>8|18=>11|19=>12|n=>n⟩
def Tryz.laysM171:Go.Proofs.LaysM.n171 Tryz.prog Tryz.laysM171_ren:={
 mixed:=by kernel_rfl
 f129:=Tryz.func326.trans (congrArg some (by kernel_rfl))
 f171:=Tryz.func133.trans (congrArg some (by kernel_rfl))
 f243:=Tryz.func208.trans (congrArg some (by kernel_rfl))
 f246:=Tryz.func271.trans (congrArg some (by kernel_rfl))
 f283:=Tryz.func302.trans (congrArg some (by kernel_rfl))
 f284:=Tryz.func303.trans (congrArg some (by kernel_rfl))
 f285:=Tryz.func304.trans (congrArg some (by kernel_rfl))
 f286:=Tryz.func305.trans (congrArg some (by kernel_rfl))
 f317:=Tryz.func325.trans (congrArg some (by kernel_rfl))
 f318:=Tryz.func327.trans (congrArg some (by kernel_rfl))
 f319:=Tryz.func328.trans (congrArg some (by kernel_rfl))
 f320:=Tryz.func329.trans (congrArg some (by kernel_rfl))
 f337:=Tryz.func343.trans (congrArg some (by kernel_rfl))
 f338:=Tryz.func344.trans (congrArg some (by kernel_rfl))
 t0:=Tryz.underlying0
 a0:=Tryz.isAgg0
 z0:=Tryz.sizeOf0
 v0:=Tryz.zeroValue0
 t2:=Tryz.underlying2
 a2:=Tryz.isAgg2
 z2:=Tryz.sizeOf2
 v2:=Tryz.zeroValue2
 t3:=Tryz.underlying3
 a3:=Tryz.isAgg3
 z3:=Tryz.sizeOf3
 v3:=Tryz.zeroValue3
 t4:=Tryz.underlying4
 a4:=Tryz.isAgg4
 z4:=Tryz.sizeOf4
 v4:=Tryz.zeroValue4
 t5:=Tryz.underlying5
 a5:=Tryz.isAgg5
 z5:=Tryz.sizeOf5
 v5:=Tryz.zeroValue5
 t9:=Tryz.underlying9
 a9:=Tryz.isAgg9
 z9:=Tryz.sizeOf9
 v9:=Tryz.zeroValue9
 t20:=Tryz.underlying20
 a20:=Tryz.isAgg20
 z20:=Tryz.sizeOf20
 v20:=Tryz.zeroValue20
 t37:=Tryz.underlying42
 a37:=Tryz.isAgg42
 z37:=Tryz.sizeOf42
 v37:=Tryz.zeroValue42
 t46:=Tryz.underlying87
 a46:=Tryz.isAgg87
 z46:=Tryz.sizeOf87
 v46:=Tryz.zeroValue87
 t51:=Tryz.underlying342
 a51:=Tryz.isAgg342
 z51:=Tryz.sizeOf342
 v51:=Tryz.zeroValue342
 t53:=Tryz.underlying320
 a53:=Tryz.isAgg320
 z53:=Tryz.sizeOf320
 v53:=Tryz.zeroValue320
 t171:=Tryz.underlying319
 a171:=Tryz.isAgg319
 z171:=Tryz.sizeOf319
 v171:=Tryz.zeroValue319
 t173:=Tryz.underlying323
 a173:=Tryz.isAgg323
 z173:=Tryz.sizeOf323
 v173:=Tryz.zeroValue323
 t212:=Tryz.underlying341
 a212:=Tryz.isAgg341
 z212:=Tryz.sizeOf341
 v212:=Tryz.zeroValue341
 t213:=Tryz.underlying343
 a213:=Tryz.isAgg343
 z213:=Tryz.sizeOf343
 t232:=Tryz.underlying364
 a232:=Tryz.isAgg364
 z232:=Tryz.sizeOf364
 v232:=Tryz.zeroValue364
 t233:=Tryz.underlying365
 a233:=Tryz.isAgg365
 z233:=Tryz.sizeOf365
 v233:=Tryz.zeroValue365
 g17:=by kernel_rfl
 g18:=by kernel_rfl
 g19:=by kernel_rfl
 i0:=by kernel_rfl
 i2:=by kernel_rfl
 i3:=by kernel_rfl
 i4:=by kernel_rfl
 i5:=by kernel_rfl
 i9:=by kernel_rfl
 i20:=by kernel_rfl
 i37:=by kernel_rfl
 i46:=by kernel_rfl
 i51:=by kernel_rfl
 i53:=by kernel_rfl
 i171:=by kernel_rfl
 i173:=by kernel_rfl
 i212:=by kernel_rfl
 i232:=by kernel_rfl
 i233:=by kernel_rfl
 m17:=by kernel_rfl
 m18:=by kernel_rfl
 m19:=by kernel_rfl }
open Go.RowKit Go.Sort Go.Lib in
def Tryz.strconv_Itoa (n : Int) (h0 : -9223372036854775808 <= n) (h1 : n <= 9223372036854775807) (w : World) (htab : Lib.TabIs Tryz.prog w "internal/strconv.uint64pow10" .u64 Lib.pow10Tab) :
  Calls Tryz.prog 133 #[.int .i64 n] w λe w'=>e=.returned (.string ⟨(Lib.itoa n).toArray⟩)/\∃ k os,w'=grow (w.drewN k) os:=Any.strconv_Itoa Tryz.laysM171 n h0 h1 w htab
end Go.Proofs
namespace Go.Proofs.YticfnaiehdpbmaaGreatDoor
open Go.RowKit Go.Proofs.Tryz
namespace Hp
section
open Go.RowKit Go.Extern.Stop Go.Stop Go.Extern
def at_one (b:Px)(a:Px->Sem Px)(c:Array Px->Sem Px):@ReflectliteValue.method.match_2 (λ_=>Sem Px) #[b] a c=a b:=rfl
def Hu (b x:Px)(a:Px->Px->Sem Px)(c:Array Px->Sem Px):@ReflectliteValue.set.match_3 (λ_=>Sem Px) #[b,x] a c=a b x:=rfl
def R9.an1 (b:Addr)(a:Pe):(ReflectliteValue.unpack (.iface 86 (.pointer (some b)))).run prog a
  = .ok (.agg #[PL 13 86,PL a.heap.size 0,.int .u64 150]) (a.alloc (.cells #[.pointer (some b)] 86)):=by kernel_rfl
def R9.an0 (b:Int)(a:Pe):(ReflectliteValue.unpack (.iface 34 (O3 b))).run prog a
  = .ok (.agg #[PL 13 34,PL a.heap.size 0,.int .u64 130]) (a.alloc (.cells #[O3 b] 34)):=by kernel_rfl
def R9.Ol (b : Addr) (a : Pe) : (ReflectliteValue.methodAny (ReflectliteValue.valueError "reflectlite.Value.Type" 0) (λc _ _ _ => ReflectliteType.toType c) #[.agg #[PL 13 86, .pointer (some b), .int .u64 150]]).run prog a
  = .ok (.iface 215 (.agg #[PL 13 86])) a:=by kernel_rfl
def R9.Nt (a:Pe):((ReflectliteType.abiMethod λc=>(λb:Nat=>Value.int IntKind.u8 (b:Int)) <$> Rtype.kind c) #[PL 13 86]).run prog a=.ok (.int .u8 22) a:=by kernel_rfl
def R9.ay0 (a:Pe):((ReflectliteType.abiMethod λc=>(λb:Nat=>Value.int IntKind.u8 (b:Int)) <$> Rtype.kind c) #[PL 13 34]).run prog a=.ok (.int .u8 2) a:=by kernel_rfl
def R9.Es (a:Addr)(b:Pe):(ReflectliteValue.parts (.agg #[PL 13 86,.pointer (some a),.int .u64 150])).run prog b=.ok (some (86,a,150)) b:=by kernel_rfl
def R9.auK (b d:Addr)(a:Pe)(c:a.cell? b=some (.pointer (some d))) :
  (ReflectliteValue.method (ReflectliteValue.valueError "reflectlite.Value.IsNil" 0) ReflectliteValue.isNil #[.agg #[PL 13 86, .pointer (some b), .int .u64 150]]).run prog a = .ok (Pv false) a := by
 delta ReflectliteValue.method
 rw[at_one];simp only[gR,R9.Es,Result.andThen];simp[ReflectliteValue.isNil,loadVar,isAgg,underlying,underlying86,c,Result.andThen]
def R9.ay1 (a:Pe):(ReflectliteType.method ReflectliteType.elem #[.agg #[PL 13 86]]).run prog a=.ok (.iface 215 (.agg #[PL 13 34])) a:=by kernel_rfl
def R9.WD (a : Pe) : (ReflectliteType.relation "Implements" ReflectliteType.implements_ #[.agg #[PL 13 34], .iface 215 (.agg #[PL 13 31])]).run prog a = .ok (Pv true) a := by kernel_rfl
def R9.Jo (b:Px)(a:Pe):(ReflectliteType.typeOf #[.iface 34 b]).run prog a=.ok (.iface 215 (.agg #[PL 13 34])) a:=by kernel_rfl
def R9.ME (a:Pe):(Rtype.elem? 86).run prog a=.ok (some 34) a:=by kernel_rfl
def R9.Pp (a:Addr)(b:Pe):(ReflectliteValue.mk 34 a ReflectliteValue.flagAddr).run prog b=.ok (.agg #[PL 13 34,.pointer (some a),.int .u64 386]) b:=by kernel_rfl
def R9.Sc (b c:Addr)(a:Pe)(d:a.cell? b=some (.pointer (some c))) :
  (ReflectliteValue.method (ReflectliteValue.valueError "reflectlite.Value.Elem" 0) ReflectliteValue.elem #[.agg #[PL 13 86, .pointer (some b), .int .u64 150]]).run prog a
   = .ok (.agg #[PL 13 34,.pointer (some c),.int .u64 386]) a:=by
 delta ReflectliteValue.method
 rw[at_one];simp only[gR,R9.Es,Result.andThen];simp[ReflectliteValue.elem,loadVar,isAgg,underlying,underlying86,d,Result.andThen,R9.ME,R9.Pp]
def R9.aqi (a:Addr)(b:Pe):(ReflectliteValue.parts (.agg #[PL 13 34,.pointer (some a),.int .u64 386])).run prog b=.ok (some (34,a,386)) b:=by kernel_rfl
def R9.Ss (a:Addr)(b:Pe):(ReflectliteValue.parts (.agg #[PL 13 34,.pointer (some a),.int .u64 130])).run prog b=.ok (some (34,a,130)) b:=by kernel_rfl
def R9.RO (a:Pe):(Rtype.directlyAssignable 34 34).run prog a=.ok true a:=by kernel_rfl
def R9.aDk (b c:Addr)(d:Int)(i:Px)(a:Pe)(e:a.cell? c=some (O3 d))(g:a.cell? b=some i)(f:a.frozen? b=false) :
  (ReflectliteValue.set #[.agg #[PL 13 34,.pointer (some b),.int .u64 386],.agg #[PL 13 34,.pointer (some c),.int .u64 130]]).run prog a
   = .ok (.tuple #[]) (a.setCell b (O3 d)):=by
 delta ReflectliteValue.set
 rw[Hu];simp only[gR,R9.aqi,R9.Ss,Result.andThen];simp[ReflectliteValue.flagAddr,loadVar,isAgg,underlying,underlying34,e,Result.andThen,R9.RO,storeVar,Value.cells,storeCells,Addr.add];rw[run_store prog a b _ _ (by rfl)];simp[g,f]
def R9.SM (b:Addr)(a:Pe):(ReflectliteValue.unpack (.iface 123 (.pointer (some b)))).run prog a
  = .ok (.agg #[PL 13 123,PL a.heap.size 0,.int .u64 150]) (a.alloc (.cells #[.pointer (some b)] 123)):=by kernel_rfl
def R9.M5 (b:Addr)(a:Pe):(ReflectliteValue.unpack (.iface 122 (.pointer (some b)))).run prog a
  = .ok (.agg #[PL 13 122,PL a.heap.size 0,.int .u64 150]) (a.alloc (.cells #[.pointer (some b)] 122)):=by kernel_rfl
def R9.N7 (b : Addr) (a : Pe) : (ReflectliteValue.methodAny (ReflectliteValue.valueError "reflectlite.Value.Type" 0) (λc _ _ _ => ReflectliteType.toType c) #[.agg #[PL 13 123, .pointer (some b), .int .u64 150]]).run prog a
  = .ok (.iface 215 (.agg #[PL 13 123])) a:=by kernel_rfl
def R9.auR (a:Pe):((ReflectliteType.abiMethod λc=>(λb:Nat=>Value.int IntKind.u8 (b:Int)) <$> Rtype.kind c) #[PL 13 123]).run prog a=.ok (.int .u8 22) a:=by kernel_rfl
def R9.Tw (a:Pe):((ReflectliteType.abiMethod λc=>(λb:Nat=>Value.int IntKind.u8 (b:Int)) <$> Rtype.kind c) #[PL 13 122]).run prog a=.ok (.int .u8 22) a:=by kernel_rfl
def R9.Hx (a:Addr)(b:Pe):(ReflectliteValue.parts (.agg #[PL 13 123,.pointer (some a),.int .u64 150])).run prog b=.ok (some (123,a,150)) b:=by kernel_rfl
def R9.aqk (b d:Addr)(a:Pe)(c:a.cell? b=some (.pointer (some d))) :
  (ReflectliteValue.method (ReflectliteValue.valueError "reflectlite.Value.IsNil" 0) ReflectliteValue.isNil #[.agg #[PL 13 123, .pointer (some b), .int .u64 150]]).run prog a = .ok (Pv false) a := by
 delta ReflectliteValue.method
 rw[at_one];simp only[gR,R9.Hx,Result.andThen];simp[ReflectliteValue.isNil,loadVar,isAgg,underlying,underlying123,c,Result.andThen]
def R9.auT (a:Pe):(ReflectliteType.method ReflectliteType.elem #[.agg #[PL 13 123]]).run prog a=.ok (.iface 215 (.agg #[PL 13 122])) a:=by kernel_rfl
def R9.M9 (a : Pe) : (ReflectliteType.relation "Implements" ReflectliteType.implements_ #[.agg #[PL 13 122], .iface 215 (.agg #[PL 13 31])]).run prog a = .ok (Pv true) a := by kernel_rfl
def R9.an3 (b:Px)(a:Pe):(ReflectliteType.typeOf #[.iface 122 b]).run prog a=.ok (.iface 215 (.agg #[PL 13 122])) a:=by kernel_rfl
def R9.an4 (a:Pe):(Rtype.elem? 123).run prog a=.ok (some 122) a:=by kernel_rfl
def R9.aDr (a:Addr)(b:Pe):(ReflectliteValue.mk 122 a ReflectliteValue.flagAddr).run prog b=.ok (.agg #[PL 13 122,.pointer (some a),.int .u64 406]) b:=by kernel_rfl
def R9.Md (b c:Addr)(a:Pe)(d:a.cell? b=some (.pointer (some c))) :
  (ReflectliteValue.method (ReflectliteValue.valueError "reflectlite.Value.Elem" 0) ReflectliteValue.elem #[.agg #[PL 13 123, .pointer (some b), .int .u64 150]]).run prog a
   = .ok (.agg #[PL 13 122,.pointer (some c),.int .u64 406]) a:=by
 delta ReflectliteValue.method
 rw[at_one];simp only[gR,R9.Hx,Result.andThen];simp[ReflectliteValue.elem,loadVar,isAgg,underlying,underlying123,d,Result.andThen,R9.an4,R9.aDr]
def R9.an5 (a:Addr)(b:Pe):(ReflectliteValue.parts (.agg #[PL 13 122,.pointer (some a),.int .u64 406])).run prog b=.ok (some (122,a,406)) b:=by kernel_rfl
def R9.aql (a:Addr)(b:Pe):(ReflectliteValue.parts (.agg #[PL 13 122,.pointer (some a),.int .u64 150])).run prog b=.ok (some (122,a,150)) b:=by kernel_rfl
def R9.an6 (a:Pe):(Rtype.directlyAssignable 122 122).run prog a=.ok true a:=by kernel_rfl
def R9.ay3 (b c:Addr)(d:Addr)(i:Px)(a:Pe)(e:a.cell? c=some (.pointer (some d)))(g:a.cell? b=some i)(f:a.frozen? b=false) :
  (ReflectliteValue.set #[.agg #[PL 13 122,.pointer (some b),.int .u64 406],.agg #[PL 13 122,.pointer (some c),.int .u64 150]]).run prog a
   = .ok (.tuple #[]) (a.setCell b (.pointer (some d))):=by
 delta ReflectliteValue.set
 rw[Hu];simp only[gR,R9.an5,R9.aql,Result.andThen];simp[ReflectliteValue.flagAddr,loadVar,isAgg,underlying,underlying122,e,Result.andThen,R9.an6,storeVar,Value.cells,storeCells,Addr.add];rw[run_store prog a b _ _ (by rfl)];simp[g,f]
def R9.an2 (b:Px)(a:Pe):(ReflectliteType.typeOf #[.iface 359 b]).run prog a=.ok (.iface 215 (.agg #[PL 13 359])) a:=by kernel_rfl
def R9.acn (a : Pe) : (ReflectliteType.relation "AssignableTo" ReflectliteType.assignableTo #[.agg #[PL 13 34], .iface 215 (.agg #[PL 13 34])]).run prog a = .ok (Pv true) a := by kernel_rfl
def R9.aaA (a : Pe) : (ReflectliteType.relation "AssignableTo" ReflectliteType.assignableTo #[.agg #[PL 13 122], .iface 215 (.agg #[PL 13 122])]).run prog a = .ok (Pv true) a := by kernel_rfl
def R9.abl (a : Pe) : (ReflectliteType.relation "AssignableTo" ReflectliteType.assignableTo #[.agg #[PL 13 34], .iface 215 (.agg #[PL 13 122])]).run prog a = .ok (Pv false) a := by kernel_rfl
def R9.NP (a : Pe) : (ReflectliteType.relation "AssignableTo" ReflectliteType.assignableTo #[.agg #[PL 13 359], .iface 215 (.agg #[PL 13 122])]).run prog a = .ok (Pv false) a := by kernel_rfl
section
variable (h:Px) (a:Pe)
include h a
def R9.Ps : (Go.method 493 215 (.agg #[h]) "Kind").run prog a = .ok (371, h) a := by kernel_rfl
def R9.aDt : (Go.method 493 215 (.agg #[h]) "Elem").run prog a = .ok (385, .agg #[h]) a := by kernel_rfl
def R9.X2 : (Go.method 493 215 (.agg #[h]) "Implements").run prog a = .ok (386, .agg #[h]) a := by kernel_rfl
def R9.Pu : (Go.method 493 215 (.agg #[h]) "AssignableTo").run prog a = .ok (383, .agg #[h]) a := by kernel_rfl
