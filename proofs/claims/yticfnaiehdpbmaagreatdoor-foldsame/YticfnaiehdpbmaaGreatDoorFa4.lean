import Derived.Test.YticfnaiehdpbmaaGreatDoorFa3
import Derived.RegionTactic
import Derived.Deep.RegionHeld
import Derived.Laws.BytesArg
set_option maxRecDepth 100000
set_option maxHeartbeats 8000000
set_option linter.all false
namespace Go.Proofs.YticfnaiehdpbmaaGreatDoor
open Go.RowKit Go.Proofs.Tryz
section
variable {P:Program} {bH:Region.Mode} {aU:Array Oper} {Q:Exit->Act->Pe->Prop} {S:Pe->Prop} {fuel:Nat} {listed:Array Bool} {u:Act} {w:Pe}
def wt {cE:Oper}(n:Nat)(v:Px)
    (h:wpAny P bH aU Q fuel (listed.setIfInBounds n true) (u.put cE.dst v) w) (bN:aU[n]? = some cE:=by rfl)
    (ay:Region.noSelect aU=true:=by kernel_rfl) (b8:Region.free bH aU listed n=true:=by kernel_rfl) (X:(Region.ready bH aU listed).contains n=true:=by kernel_rfl)
    (ef:∀ e u w,Q (.panic e) (u.put cE.dst v) w->Q (.panic e) u w:=by exact λ_ _ _ h=>h) (bi:Yields P aU cE v u:=by exact fM ⟨by kernel_rfl,λw=>by go_simp⟩):wpAny P bH aU Q (fuel+1) listed u w:=
  wpAny_take bN ay b8 X ef bi h
def wg {cE:Oper}(n:Nat)(v:Px)(bN:aU[n]? = some cE)(bi:YieldsIf P aU S cE v u)(eg:S w)
    (h:wpAnyH P bH aU Q S fuel (listed.setIfInBounds n true) (u.put cE.dst v) w)
    (ay:Region.noSelect aU=true:=by kernel_rfl) (b8:Region.free bH aU listed n=true:=by kernel_rfl) (X:(Region.ready bH aU listed).contains n=true:=by kernel_rfl)
    (ef:∀ e u w,Q (.panic e) (u.put cE.dst v) w->Q (.panic e) u w:=by exact λ_ _ _ h=>h):wpAnyH P bH aU Q S (fuel+1) listed u w:=
  wpAnyH_take bN ay b8 X ef bi eg h
def wh {cE:Oper}(n:Nat)(v:Px)(eg:S w)
    (h:wpAnyH P bH aU Q S fuel (listed.setIfInBounds n true) (u.put cE.dst v) w) (bN:aU[n]? = some cE:=by rfl)
    (ay:Region.noSelect aU=true:=by kernel_rfl) (b8:Region.free bH aU listed n=true:=by kernel_rfl) (X:(Region.ready bH aU listed).contains n=true:=by kernel_rfl)
    (ef:∀ e u w,Q (.panic e) (u.put cE.dst v) w->Q (.panic e) u w:=by exact λ_ _ _ h=>h) (bi:YieldsIf P aU S cE v u:=by exact fM ⟨by kernel_rfl,λ_ _=>by go_simp⟩):wpAnyH P bH aU Q S (fuel+1) listed u w:=
  wpAnyH_take bN ay b8 X ef bi eg h
def WL {aL:Oper}(n:Nat)
    (h:∀ c7:Act->Pe->Prop,(∀ u w,wpAny P bH aU Q fuel (listed.setIfInBounds n true) u w->c7 u w)->if Region.wanted aL (yielded aU u.tmps)=true then Oper.wp P aL u w c7 Q else c7 (u.put aL.dst undef) w)
    (bA:aU[n]? = some aL:=by rfl) (X:Region.ready bH aU listed=[n]:=by kernel_rfl):wpAny P bH aU Q (fuel+1) listed u w:=
  wpAny_ready X P7 (mP bA h AllReady.nil)
def wbZ {aL:Oper}{L:Prop}(n:Nat)(j:L)(bA:aU[n]? = some aL:=by rfl)(X:Region.ready bH aU listed=[n]:=by kernel_rfl)
    (h:Kk L->∀ c7:Act->Pe->Prop,(∀ u w,wpAny P bH aU Q fuel (listed.setIfInBounds n true) u w->c7 u w)->if Region.wanted aL (yielded aU u.tmps)=true then Oper.wp P aL u w c7 Q else c7 (u.put aL.dst undef) w:=by
      intro j K fk;go_simp;exact fk _ _ j.o):wpAny P bH aU Q (fuel+1) listed u w:=
  WL n (h ⟨j⟩) bA X
def hJ {aL cD:Oper}(n a8:Nat)
    (h:∀ c7:Act->Pe->Prop,(∀ u w,wpAny P bH aU Q fuel (listed.setIfInBounds n true) u w->c7 u w)->if Region.wanted aL (yielded aU u.tmps)=true then Oper.wp P aL u w c7 Q else c7 (u.put aL.dst undef) w)
    (dy:∀ c7:Act->Pe->Prop,(∀ u w,wpAny P bH aU Q fuel (listed.setIfInBounds a8 true) u w->c7 u w)->if Region.wanted cD (yielded aU u.tmps)=true then Oper.wp P cD u w c7 Q else c7 (u.put cD.dst undef) w)
    (bA:aU[n]? = some aL:=by rfl) (dx:aU[a8]? = some cD:=by rfl) (X:Region.ready bH aU listed=[n,a8]:=by kernel_rfl):wpAny P bH aU Q (fuel+1) listed u w:=
  wpAny_ready X P7 (mP bA h (mP dx dy AllReady.nil))
def Ye {aL:Oper}(n:Nat)
    (h:∀ c7:Act->Pe->Prop,Shut (∀ u w,S w->(S w->wpAnyH P bH aU Q S fuel (listed.setIfInBounds n true) u w)->c7 u w)->if Region.wanted aL (yielded aU u.tmps)=true then Oper.wp P aL u w c7 Q else c7 (u.put aL.dst undef) w)
    (bA:aU[n]? = some aL:=by rfl) (X:Region.ready bH aU listed=[n]:=by kernel_rfl):wpAnyH P bH aU Q S (fuel+1) listed u w:=
  wpAnyH_ready X P7 (AllReadyH.cons bA h AllReadyH.nil)
def mv {H G:Pe->Nat->Prop}{goal:Prop}(d:(∀ a b,H a b->G a b)->goal)(c:∀ a b,H a b->G a b):goal:=d c
def Uw {listed':Array Bool}{a:Act}(c:listed=listed')(b:u=a)(h:wpAny P bH aU Q fuel listed' a w):wpAny P bH aU Q fuel listed u w:=by
  subst c b;exact h
def tf (b a:Nat):Array Bool:=Array.replicate b true++Array.replicate a false
def wz {fe:Act}(bz cY:Nat)(h:wpAny P bH aU Q fuel (tf bz cY) fe w)(ad:listed=tf bz cY:=by kernel_rfl)(ak:u=fe:=by kernel_rfl):wpAny P bH aU Q fuel listed u w:=Uw ad ak h
def cm {e:FuncId}{c:Array Px}{R b:Ending->Pe->Prop}(h:Calls P e c w R)(f:∀ d a,R d a->b d a):Calls P e c w b:=h.mono f
end
def aty (x:Py)(a:Pe)(i:1<=x.size)(f:x.size<=10)(c:∀ d,(g:d<x.size)->Rk (x[d].toNat:Int)=true) :
  Pq 216 #[Pj x] a λb e=>b=PK (.tuple #[O3 (YM x.data.toList),QW])/\Pn a e:=by
 have g:=Y c;clear c;go_enter func216,ntmps216;go_wp2_with fail;refine(S2 x a i f g.out).mono ?_;rintro b j ⟨rfl,d⟩;go_wp2
 go_ret2
 exact⟨rfl,d⟩
def EW (x:Py):x.data.toList.length=x.size:=by simp
def xV (d:Int->Bool)(c:Py):∀ i a,i+a=c.size->∀ b,a<=b->b<P9 d c a->(g:b<c.size)->d (c[b].toNat:Int)=true
 | 0,a,j,b,k,e,g=>by omega
 | i+1,a,j,b,k,e,g=>by
  cases f:d ((c[a]'O9).toNat:Int)
  ·rw[He d c a O9 f] at e;omega
  ·by_cases l:b=a
   ·subst l;exact f
   ·rw[<-Zk d c a O9 f] at e;exact xV d c i (a+1) O9 b O9 e g
def w8 (a:Py)(b c d:Nat)(f:c<=a.size)(e:d<(a.extract b c).size):(a.extract b c)[d]=a[b+d]'(by simp at e;omega):=by
 simp[ByteArray.getElem_extract]
def rdNum (b:Py)(a:Nat):Rd:=
 if 10<P9 Rk b a - a then .f0 3 a
 else if 1<P9 Rk b a - a/\(((b.data.toList.getD a 0).toNat:Nat):Int)=48 then .f0 3 a
 else if 1000000000<YM (b.extract a (P9 Rk b a)).data.toList then .f0 2 a
 else .tok 3 ⟨#[]⟩ (YM (b.extract a (P9 Rk b a)).data.toList) (P9 Rk b a)
section
variable (c:Py) (a b:Nat) (w:Pe) (H:c.size<=3000) (F:a<c.size) (m:P9 Rk c a=b) (I:a<b) (k:b<=c.size)
include c a b w H F m I k
def R0 (d:10<b - a) :
  Pq 143 #[Pj c,O3 (a:Int)] w (U0 a (.f0 3 a) w):=BG
def Pi (g:0<(c.extract a b).size)(i:¬ 10<b - a)(d:1<b - a)(j:(((c.extract a b)[0].toNat:Int)==48)=true) :
  Pq 143 #[Pj c,O3 (a:Int)] w (U0 a (.f0 3 a) w):=BG
def akc (O:0<(c.extract a b).size)(d:Int)(i:YM (c.extract a b).data.toList=d)(S:¬ 10<b - a)(L:1<b - a)(ac:(((c.extract a b)[0].toNat:Int)==48)=false)(p:1000000000<d) :
  Pq 143 #[Pj c,O3 (a:Int)] w (U0 a (.f0 2 a) w):=by
 have q{G}(h:G:=by
 clear hv n;exact xf):=O6 h;exact Jc
def ahz (C:0<(c.extract a b).size)(d:Int)(i:YM (c.extract a b).data.toList=d)(L:¬ 10<b - a)(B:1<b - a)(O:(((c.extract a b)[0].toNat:Int)==48)=false)(p:¬ 1000000000<d) :
  Pq 143 #[Pj c,O3 (a:Int)] w (U0 a (.tok 3 ⟨#[]⟩ d b) w):=Ep
def Pd (d:Int)(i:YM (c.extract a b).data.toList=d)(B:¬ 1<b - a)(p:¬ 1000000000<d) :
  Pq 143 #[Pj c,O3 (a:Int)] w (U0 a (.tok 3 ⟨#[]⟩ d b) w):=Ep
end
def JA (b:Py)(a:Nat)(g:Pe)(k:b.size<=3000)(f:a<b.size)(u:Rk (b[a].toNat:Int)=true) :
  Pq 143 #[Pj b,O3 (a:Int)] g (U0 a (rdNum b a) g):=by
 have l:a<P9 Rk b a:=by rw[<-Zk Rk b a f u];have:=V9 Rk b (a+1);omega
 have c:=UL Rk b a O9;have z:=extract_size b a (P9 Rk b a) O9 c;have m:0<(b.extract a (P9 Rk b a)).size:=O9;have r:(b.extract a (P9 Rk b a))[0]=b[a]:=by rw[w8 b a _ 0 c m];rfl
 have q:=oP b a f
 by_cases e:10<P9 Rk b a - a
 ·have d:rdNum b a=.f0 3 a:=by unfold rdNum;rw[fL e]
  rw[d];exact R0 b a _ g k f rfl l c e
 ·by_cases i:1<P9 Rk b a - a
  ·by_cases n:((b[a].toNat:Nat):Int)=48
   ·have d:rdNum b a=.f0 3 a:=by unfold rdNum;rw[fK e,fL ⟨i,by rw[q];exact n⟩]
    rw[d];exact Pi b a _ g k f rfl l c m e i (by rw[r];exact jL.2 n)
   ·have p:(((b.extract a (P9 Rk b a))[0].toNat:Int)==48)=false:=by rw[r];exact gG.2 n
    have o:¬ (1<P9 Rk b a - a/\(((b.data.toList.getD a 0).toNat:Nat):Int)=48):=λh=>n (by have:=h.2;rw[q] at this;exact this)
    by_cases j:1000000000<YM (b.extract a (P9 Rk b a)).data.toList
    ·have d:rdNum b a=.f0 2 a:=by unfold rdNum;rw[fK e,fK o,fL j]
     rw[d];exact akc b a _ g k f rfl l c m _ rfl e i p j
    ·have s{G}(h:G:=by
     rw[d];exact ahz b a _ g k f rfl l c m _ rfl e i p j):=O6 h;exact KN
  ·have o:¬ (1<P9 Rk b a - a/\(((b.data.toList.getD a 0).toNat:Nat):Int)=48):=λh=>i h.1;have hv:∀ p ∈ (b.extract a (P9 Rk b a)).data.toList,Rk (p.toNat:Int)=true:=IR
   have t:=(Z5 _ hv).2;have v:(b.extract a (P9 Rk b a)).data.toList.length=1:=by rw[EW];omega
   rw[v] at t;have j:¬ 1000000000<YM (b.extract a (P9 Rk b a)).data.toList:=O9;have s{G}(h:G:=by
   rw[d];exact Pd b a _ g k f rfl l c _ rfl i j):=O6 h;exact KN
def bt (b:Py)(a:Nat):UInt8:=b.data.toList.getD a 0
def tX (b:Py)(a:Nat)(h:a<b.size):bt b a=b[a]:=oP b a h
def lD (a:UInt8):Option UInt8:=if a=110 then some 10 else if a=39\/a=92 then some a else none
inductive SR where
 | ok (said:List UInt8) (e:Nat)
 | f0 (p:Nat)
def Xu (b:Py)(a:Nat)(said:List UInt8):SR:=
 if a<b.size then
  if bt b a=39 then .ok said (a+1)
  else if bt b a=10 then .f0 a
  else if bt b a=92 then
   if a+1<b.size then
    match lD (bt b (a+1)) with
    | some c=>Xu b (a+2) (said++[c])
    | none=>.f0 (a+1)
   else .f0 (a+1)
  else Xu b (a+1) (said++[bt b a])
 else .f0 b.size
termination_by b.size - a
def rdStr (c:Py)(a:Nat):Rd:=
 match Xu c (a+1) [] with
 | .ok said b=>if 500<said.length then .f0 4 a else .tok 4 (ofBytes said) 0 b
 | .f0 b=>.f0 3 b
section
variable (b:Py) (a:Nat) (said:List UInt8)
include b a said
def DP (h:¬ a<b.size):Xu b a said=.f0 b.size:=by rw[Xu,fK h]
def Lx (h:a<b.size)(c:bt b a=39):Xu b a said=.ok said (a+1):=by rw[Xu,fL h,fL c]
def IJ (h:a<b.size)(c:bt b a=10):Xu b a said=.f0 a:=by rw[Xu,fL h,fK (by rw[c];decide),fL c]
def Dj (d:UInt8)(h:a<b.size)(c:bt b a=92)(f:a+1<b.size)(e:lD (bt b (a+1))=some d):Xu b a said=Xu b (a+2) (said++[d]):=by
 conv=>lhs;rw[Xu]
 rw[fL h,fK (by rw[c];decide),fK (by rw[c];decide),fL c,fL f,e]
def YF (h:a<b.size)(c:bt b a=92)(e:a+1<b.size->lD (bt b (a+1))=none):Xu b a said=.f0 (a+1):=by
 rw[Xu,fL h,fK (by rw[c];decide),fK (by rw[c];decide),fL c]
 by_cases d:a+1<b.size
 ·rw[fL d,e d]
 ·rw[fK d]
def K2 (h:a<b.size)(e:bt b a≠39)(c:bt b a≠10)(d:bt b a≠92):Xu b a said=Xu b (a+1) (said++[bt b a]):=by
 conv=>lhs;rw[Xu]
 rw[fL h,fK e,fK c,fK d]
end
def YE (a b:UInt8):(((a.toNat:Nat):Int)==((b.toNat:Nat):Int))=decide (a=b):=by
 by_cases h:a=b
 ·subst h;simp
 ·have:a.toNat≠b.toNat:=λc=>h (UInt8.toNat_inj.1 c);simp[h];omega
def zy (b:Option UInt8):Px:=match b with|some a=>.tuple #[.int .u8 (a.toNat:Int),Pv true] | none=>.tuple #[.int .u8 0,Pv false]
def Wk (b:Py)(a:Nat)(c:Pe)(h:b.size<=a) :
  Pq 217 #[Pj b,O3 (a:Int)] c λe d=>e=PK (.tuple #[.int .u8 0,Pv false])/\d=c:=by
 go_enter func217,ntmps217
 go_wp2
 go_ret2
 exact⟨rfl,rfl⟩
def F4 (b:Py)(a:Nat)(n:Pe)(h:a<b.size) :
  Pq 217 #[Pj b,O3 (a:Int)] n λe o=>e=PK (zy (lD (bt b a)))/\o=n:=by
 rw[tX b a h];obtain⟨d,c⟩:=xE (b[a]);have k:=YE d 110;have j:=YE d 39;have l:=YE d 92;rw[<-c]
 by_cases g:d=110
 ·have e:lD d=some 10:=by simp[lD,g]
  have p:(((b[a].toNat:Nat):Int)==110)=true:=by rw[<-c,g];rfl
  rw[e];clear k j l c g;go_enter func217,ntmps217
  go_wp2
  go_ret2
  exact⟨rfl,rfl⟩
 ·have p:(((b[a].toNat:Nat):Int)==110)=false:=by rw[<-c];simpa[g] using k
  by_cases f:d=39
  ·have e:lD d=some 39:=by simp[lD,f]
   have q:(((b[a].toNat:Nat):Int)==39)=true:=by rw[<-c,f];rfl
   have m:((b[a].toNat:Nat):Int)=39:=by rw[<-c,f];rfl
   exact GH
  ·have q:(((b[a].toNat:Nat):Int)==39)=false:=by rw[<-c];simpa[f] using j
   by_cases i:d=92
   ·have e:lD d=some 92:=by simp[lD,i]
    have r:(((b[a].toNat:Nat):Int)==92)=true:=by rw[<-c,i];rfl
    have m:((b[a].toNat:Nat):Int)=92:=by rw[<-c,i];rfl
    exact GH
   ·have e:lD d=none:=by simp[lD,g,f,i]
    have r:(((b[a].toNat:Nat):Int)==92)=false:=by rw[<-c];simpa[i] using l
    rw[e];clear k j l c g f;go_enter func217,ntmps217
    go_wp2
    go_ret2
    exact⟨rfl,rfl⟩
def cellsOf (b:List UInt8):List Px:=b.map (λa=>Value.int .u8 (a.toNat:Int))
def apS {e:Pe}{base:Nat}{c:Px}{b:Nat}{f:List Px}(h:e.ownsRow base 5 1 c b f):∃ d a,c=.slice d b a:=by
 obtain⟨_,⟨rfl,rfl⟩|⟨i,a,g,rfl,_⟩⟩:=h
 all_goals
  exact⟨_,_,rfl⟩
def Sy {c:Pe}{base:Nat}{f:Px}(a:List UInt8)(h:c.ownsRow base 5 1 f a.length (cellsOf a)):(convert 42 9 f).run prog c=.ok (Pj (ofBytes a)) c:=by
 obtain⟨t,⟨rfl,n⟩|⟨d,l,k,rfl,p,o,s,q,r,j⟩⟩:=h
 ·have:a=[]:=lI.1 n;subst this;exact run_convert_bytes_nil c 42 5 j4 underlying5 0 0 9 j2
 ·refine run_convert_bytes_back c 42 9 5 (O7 d 0) l a j4 underlying5 j2 ?_;intro b i;have e:(cellsOf a)[b]? = some (.int .u8 (a[b].toNat:Int)):=by unfold cellsOf;rw[i6,ga i];rfl
  rw[<-j,mQ O9] at e;have g:k[b]? = some (.int .u8 (a[b].toNat:Int)):=by simpa using e
  have m:(Addr.add (O7 d 0) b)=(O7 d b):=by simp[Addr.add];intro h;exact h.symm
  rw[m];simp only[World.cell?,o];simpa using g
def mF:(prog.info? 5).map (λa=>(a.zero,a.size,a.bytes))=some (some (.int .u8 0),1,1):=by kernel_rfl
def Pa (b:List UInt8)(a:UInt8):cellsOf (b++[a])=cellsOf b++[.int .u8 (a.toNat:Int)]:=by simp[cellsOf]
def BS {a wr b:Pe}{i e:Px}{said:List UInt8}{c:UInt8}(d:Obj)(k:Below (a.heap.size+1) (a.alloc mL) wr)(l:a.heap.size+1<=wr.heap.size)
  (n:wr.ownsRow (a.heap.size+1) 5 1 i said.length (cellsOf said))
  (hown':b.ownsRow (a.heap.size+1) 5 1 e (said.length+1) (cellsOf said++[.int .u8 (c.toNat:Int)])) (m:(wr.alloc d).grownBy b i.ownBlock) :
  b.ownsRow (a.heap.size+1) 5 1 e (said++[c]).length (cellsOf (said++[c]))/\Below (a.heap.size+1) (a.alloc mL) b/\a.heap.size+1<=b.heap.size:=by
 have j:Below (a.heap.size+1) (a.alloc mL) (wr.alloc d):=k.alloc l d;have g:Below (a.heap.size+1) (a.alloc mL) b:=j.grown m RQ (λr f=>by
  obtain⟨_,⟨rfl,_⟩|⟨q,p,o,rfl,s,_⟩⟩:=n
  ·simp[Value.ownBlock] at f
  ·simp[Value.ownBlock] at f;omega)
 refine⟨by rw[Pa,gj];exact hown',g,?_⟩
 have:=g.size;simp at this;omega
def GK (b:Py)(k:Nat)(w:Pe)(aY:b.size<=3000)(aW:k<b.size) :
  Pq 144 #[Pj b,O3 (k:Int)] w (U0 k (rdStr b k) w):=by
 obtain⟨ay,aj,ap,ak,am⟩:=gY mF;obtain⟨i,X⟩:∃ i,Xu b (k+1) []=i:=⟨_,rfl⟩;have n:=Y X;obtain⟨m,L⟩:∃ m,rdStr b k=m:=⟨_,rfl⟩;have B:=Y L;rw[L];clear X L;go_enter func144,ntmps144
 go_wp2
 go_loopw [7,8,9,10,11] (λv U _ _ _ wr=>∃ (a:Nat) (said:List UInt8),a<=b.size/\said.length<=a/\U=O3 a/\Xu b a said=i/\wr.ownsRow (w.heap.size+1) 5 1 v said.length (cellsOf said)/\Below (w.heap.size+1) (w.alloc mL) wr/\w.heap.size+1<=wr.heap.size) (λ_ U _ _ _ _=>b.size - (intOf U).toNat)
 case atStart=>exact⟨k+1,[],by omega,by simp,by go_num,n.out,iK _ _ _ _,RP,by simp⟩
 case round=>
  obtain⟨a,said,H,aX,rfl,ai,ax,M,ac⟩:=hrel;have r:=Y ai;have C:=ax;clear ai
  by_cases l:a<b.size
  ·have d:=tX b a l;obtain⟨u,aZ,rfl⟩:=apS ax;have q:=YE b[a] 39;have o:=YE b[a] 10;have s:=YE b[a] 92
   by_cases f:b[a]=39
   ·
    have aF:(((b[a].toNat:Nat):Int)==39)=true:=by rw[f];rfl
    have c:i=.ok said (a+1):=by rw[<-r.out,Lx b a said l (by rw[d];exact f)]
    clear q o s f d
    by_cases g:500<said.length
    ·have e:m=.f0 4 k:=by rw[<-B.out];unfold rdStr;rw[n.out,c];simp[g]
     clear c;subst e;exact q4
    ·have e:m=.tok 4 (ofBytes said) 0 (a+1):=by rw[<-B.out];unfold rdStr;rw[n.out,c];simp[g]
     clear c;subst e;have j:=Sy said C;have F:Below (w.alloc mL).heap.size (w.alloc mL) wr:=by simpa using M
     obtain⟨z,aN⟩:=ot F;have ad:=F;go_wp2_with fail;exact od (v:=.tuple #[.agg #[O3 4,Pj (ofBytes said),O3 0,O3 (k:Int)],O3 ((a:Int)+1),QW]) ⟨by simp,Zl ad _ _ _ _⟩
   ·have aF:(((b[a].toNat:Nat):Int)==39)=false:=by rw[show (39:Int)=(((39:UInt8).toNat:Nat):Int) from rfl,q];simp[f]
    by_cases j:b[a]=10
    ·
     have aG:(((b[a].toNat:Nat):Int)==10)=true:=by rw[j];rfl
     have c:i=.f0 a:=by rw[<-r.out,IJ b a said l (by rw[d];exact j)]
     have e:m=.f0 3 a:=by rw[<-B.out];unfold rdStr;rw[n.out,c]
     clear q o s f j d c;subst e;exact q4
    ·have aG:(((b[a].toNat:Nat):Int)==10)=false:=by rw[show (10:Int)=(((10:UInt8).toNat:Nat):Int) from rfl,o];simp[j]
     by_cases g:b[a]=92
     ·
      have aI:(((b[a].toNat:Nat):Int)==92)=true:=by rw[g];rfl
      by_cases I:a+1<b.size
      ·
       cases A:lD (bt b (a+1)) with
       | none=>
        have c:i=.f0 (a+1):=by rw[<-r.out,YF b a said l (by rw[d];exact g) (λ_=>A)]
        have e:m=.f0 3 (a+1):=by rw[<-B.out];unfold rdStr;rw[n.out,c]
        have O:=Y A;clear q o s f j g d c A;subst e;go_wp2_with fail;have t:=F4 b (a+1) wr I;rw[O.out] at t;refine cm t ?_;rintro au N ⟨rfl,rfl⟩;simp only[zy];exact q4
       | some E=>
        have c:Xu b (a+2) (said++[E])=i:=by rw[<-r.out,Dj b a said E l (by rw[d];exact g) I A]
        have S:=Y c;have O:=Y A;clear q o s f j g d c A;go_wp2_with fail;have t:=F4 b (a+1) wr I;rw[O.out] at t;refine cm t ?_;rintro au N ⟨rfl,rfl⟩;simp only[zy]
        go_wp2_with (at_builtin;refine j7 _ rfl _ _ 42 rfl (w.heap.size+1) 5 ay (.int .u8 0) 1 1 j4 aj ap ak am rfl Pm _ _ _ rfl (C.alloc _) (O7 N.heap.size 0) 1 1 [.int .u8 (E.toNat:Int)] rfl rfl ?c1 ?c2 ?c3 ?c4 ?c5 ?_)
        case c1=>
         exact yO
        case c2=>intro ah D;simp at D;subst D;rfl
        case c3=>unfold maxLen;omega
        case c4=>omega
        case c5=>simp;omega
        intro aD aK hown' T _;have R:=BS (c:=E) _ M ac C hown' T;have p:=Y R;clear R
        go_wp2
        go_roundw
        case rel=>exact⟨a+2,said++[E],by omega,by simp;omega,by go_num,S.out,p.out.1,p.out.2.1,p.out.2.2⟩
        case measure=>simp[intOf];omega
      ·have c:i=.f0 (a+1):=by rw[<-r.out,YF b a said l (by rw[d];exact g) (λh=>absurd h I)]
       have e:m=.f0 3 (a+1):=by rw[<-B.out];unfold rdStr;rw[n.out,c]
       clear q o s f j g d c;subst e;go_wp2_with fail;have t:=Wk b (a+1) wr O9;refine cm t ?_;rintro au N ⟨rfl,rfl⟩;exact q4
     ·
      have aI:(((b[a].toNat:Nat):Int)==92)=false:=by rw[show (92:Int)=(((92:UInt8).toNat:Nat):Int) from rfl,s];simp[g]
      have c:Xu b (a+1) (said++[b[a]])=i:=by rw[<-r.out,K2 b a said l (by rw[d];exact f) (by rw[d];exact j) (by rw[d];exact g),d]
      have S:=Y c;clear q o s f j g d c
      go_wp2_with (at_builtin;refine j7 _ rfl _ _ 42 rfl (w.heap.size+1) 5 ay (.int .u8 0) 1 1 j4 aj ap ak am rfl Pm _ _ _ rfl (C.alloc _) (O7 wr.heap.size 0) 1 1 [.int .u8 (b[a].toNat:Int)] rfl rfl ?c1 ?c2 ?c3 ?c4 ?c5 ?_)
      case c1=>
       exact yO
      case c2=>intro ah D;simp at D;subst D;rfl
      case c3=>unfold maxLen;omega
      case c4=>omega
      case c5=>simp;omega
      intro aD aK hown' T _;have R:=BS (c:=b[a]) _ M ac C hown' T;have p:=Y R;clear R
      go_wp2
      go_roundw
      case rel=>exact⟨a+1,said++[b[a]],by omega,by simp;omega,by go_num,S.out,p.out.1,p.out.2.1,p.out.2.2⟩
      case measure=>simp[intOf];omega
  ·have c:i=.f0 b.size:=by rw[<-r.out,DP b a said l]
   have e:m=.f0 3 b.size:=by rw[<-B.out];unfold rdStr;rw[n.out,c]
   clear c;subst e;exact q4
def Xf (d c:List Py)(b:Py)(a:Nat):Rd:=
 if mg ((bt b a).toNat:Int)=true then Vr d b a
 else if Rk ((bt b a).toNat:Int)=true then rdNum b a
 else if bt b a=39 then rdStr b a
 else WE c b a
structure hx (bb bJ:List Py)(w:Pe):Prop where
 lw:bb.length=19
 lg:bJ.length=19
 zg:∀ i,i<19->(bJ.getD i ByteArray.empty).size<=3
 hw:∃ t fr,w.heap[6]? = some (.cells (bb.map Value.string).toArray t fr)
 hg:∃ t fr,w.heap[2]? = some (.cells (bJ.map Value.string).toArray t fr)
def hx.lt {c b:List Py}{a:Pe}(h:hx c b a):6<a.heap.size:=by
 obtain⟨f,e,d⟩:=h.hw;exact(h8.1 d).1
def hx.fH {c b:List Py}{w w':Pe}(h:hx c b w)(a:Pn w w'):hx c b w':=by
 obtain⟨g,f,e⟩:=h.hw;obtain⟨i,j,d⟩:=h.hg;have l:=(h8.1 e).1;have k:=(h8.1 d).1;exact⟨h.lw,h.lg,h.zg,⟨g,f,by rw[a.block 6 O9];exact e⟩,⟨i,j,by rw[a.block 2 O9];exact d⟩⟩
section
variable (l m:List Py) (b:Py) (a:Nat) (d e:Int) (f:Py) (c:Nat) (w:Pe) (k:b.size<=3000) (j:a<b.size) (r:hx l m w)
include l m b a d e f c w k j r
def ahA (i:mg (b[a].toNat:Int)=true)(X:Vr l b a=.tok d f e c) :
  Pq 68 #[Pj b,O3 (a:Int)] w (U0 a (.tok d f e c) w):=by
 have g{G}(h:G:=by
 have g{G}(h:G:=by
 rintro E B ⟨rfl,t⟩;have A:=n.trans (t.mono n.size);exact Kl):=O6 h;exact Dp):=O6 h;exact BU
def akh (i:mg (b[a].toNat:Int)=false)(aJ:Rk (b[a].toNat:Int)=true)(X:rdNum b a=.tok d f e c) :
  Pq 68 #[Pj b,O3 (a:Int)] w (U0 a (.tok d f e c) w):=by
 have g{G}(h:G:=by
 have s:=JA b a q k j C.out;rw[p.out] at s;refine cm s ?_;exact vP):=O6 h;exact p4
def aki (i:mg (b[a].toNat:Int)=false)(aJ:Rk (b[a].toNat:Int)=false)(t:(((b[a].toNat:Nat):Int)==39)=true)(X:rdStr b a=.tok d f e c) :
  Pq 68 #[Pj b,O3 (a:Int)] w (U0 a (.tok d f e c) w):=by
 have g{G}(h:G:=by
 have s:=GK b a q k j;rw[p.out] at s;refine cm s ?_;exact vP):=O6 h;exact p4
def NE (i:mg (b[a].toNat:Int)=false)(aJ:Rk (b[a].toNat:Int)=false)(F:(((b[a].toNat:Nat):Int)==39)=false)(X:WE m b a=.tok d f e c) :
  Pq 68 #[Pj b,O3 (a:Int)] w (U0 a (.tok d f e c) w):=by
 have g{G}(h:G:=by
 have g{G}(h:G:=by
 clear t;exact vP):=O6 h;exact F5):=O6 h;exact p4
end
section
variable (l m:List Py) (b:Py) (a:Nat) (c:Int) (d:Nat) (w:Pe) (k:b.size<=3000) (j:a<b.size) (r:hx l m w)
include l m b a c d w k j r
def afh (i:mg (b[a].toNat:Int)=true)(X:Vr l b a=.f0 c d) :
  Pq 68 #[Pj b,O3 (a:Int)] w (U0 a (.f0 c d) w):=by
 have g{G}(h:G:=by
 have g{G}(h:G:=by
 rintro H E ⟨A,rfl,f,e,t⟩;have B:=n.trans (t.mono n.size);have F:=f9 n.size e;exact Lo):=O6 h;exact Dp):=O6 h;exact BU
def VS (i:mg (b[a].toNat:Int)=false)(aJ:Rk (b[a].toNat:Int)=true)(X:rdNum b a=.f0 c d) :
  Pq 68 #[Pj b,O3 (a:Int)] w (U0 a (.f0 c d) w):=by
 have g{G}(h:G:=by
 have s:=JA b a q k j C.out;rw[p.out] at s;refine cm s ?_;exact zR):=O6 h;exact p4
def NO (i:mg (b[a].toNat:Int)=false)(aJ:Rk (b[a].toNat:Int)=false)(t:(((b[a].toNat:Nat):Int)==39)=true)(X:rdStr b a=.f0 c d) :
  Pq 68 #[Pj b,O3 (a:Int)] w (U0 a (.f0 c d) w):=by
 have g{G}(h:G:=by
 have s:=GK b a q k j;rw[p.out] at s;refine cm s ?_;exact zR):=O6 h;exact p4
def Sx (i:mg (b[a].toNat:Int)=false)(aJ:Rk (b[a].toNat:Int)=false)(am:(((b[a].toNat:Nat):Int)==39)=false)(X:WE m b a=.f0 c d) :
  Pq 68 #[Pj b,O3 (a:Int)] w (U0 a (.f0 c d) w):=by
 have g{G}(h:G:=by
 have g{G}(h:G:=by
 clear t;exact zR):=O6 h;exact F5):=O6 h;exact p4
end
def Ci (e d:List Py)(b:Py)(a:Nat)(f:Pe)(i:b.size<=3000)(g:a<b.size)(j:hx e d f) :
  Pq 68 #[Pj b,O3 (a:Int)] f (U0 a (Xf e d b a) f):=by
 have v:=tX b a g;have u:=YE b[a] 39;unfold Xf;rw[v]
 cases k:mg (b[a].toNat:Int)
 ·rw[fK P7]
  cases r:Rk (b[a].toNat:Int)
  ·rw[fK P7]
   by_cases t:b[a]=39
   ·rw[fL t];have s:(((b[a].toNat:Nat):Int)==39)=true:=by rw[t];rfl
    cases c:rdStr b a with
    | tok n q o l=>exact aki e d b a n o q l f i g j k r s c
    | f0 m p=>exact NO e d b a m p f i g j k r s c
   ·rw[fK t];have s:(((b[a].toNat:Nat):Int)==39)=false:=by rw[show (39:Int)=(((39:UInt8).toNat:Nat):Int) from rfl,u];simp[t]
    cases c:WE d b a with
    | tok n q o l=>exact NE e d b a n o q l f i g j k r s c
    | f0 m p=>exact Sx e d b a m p f i g j k r s c
  ·rw[fL rfl]
   cases c:rdNum b a with
   | tok n q o l=>exact akh e d b a n o q l f i g j k r c
   | f0 m p=>exact VS e d b a m p f i g j k r c
 ·rw[fL rfl]
  cases c:Vr e b a with
  | tok n q o l=>exact ahA e d b a n o q l f i g j k c
  | f0 m p=>exact afh e d b a m p f i g j k c
structure Tk where
 kd:Int
 tx:Py
 n:Int
 pl:Nat
inductive TR where
 | ok (l:List Tk)
 | f0 (er:Int) (p:Nat)
def Vq (f e:List Py)(a:Py)(b:Nat)(d:List Tk):TR:=
 if h:b<a.size then
  match Xf f e a b with
  | .tok i l j c=>if m:b<c then Vq f e a (P9 TU a c) (d++[⟨i,l,j,b⟩]) else .f0 0 0
  | .f0 g k=>.f0 g k
 else .ok (d++[⟨6,⟨#[]⟩,0,a.size⟩])
termination_by a.size - b
decreasing_by
 have:=V9 TU a c;omega
section
variable (d c:List Py) (a:Py) (b:Nat) (e:List Tk)
include d c a b e
def Zp (h:¬ b<a.size):Vq d c a b e=.ok (e++[⟨6,⟨#[]⟩,0,a.size⟩]):=by rw[Vq,dif_neg h]
def yd (f:Int)(g:Nat)(h:b<a.size)(i:Xf d c a b=.f0 f g):Vq d c a b e=.f0 f g:=by rw[Vq,dif_pos h,i]
def Us (g i:Int)(j:Py)(f:Nat)(h:b<a.size)(k:Xf d c a b=.tok g j i f)(l:b<f):Vq d c a b e=Vq d c a (P9 TU a f) (e++[⟨g,j,i,b⟩]):=by
 conv=>lhs;rw[Vq]
 rw[dif_pos h,k];simp only;rw[dif_pos l]
end
def M3 (b:Py):∀ g a said e d,b.size - a=g->Xu b a said=.ok e d->a<d/\d<=b.size/\e.length<=said.length+(b.size - a):=by
 intro g
 induction g using Nat.strongRecOn with
 | ind g j=>
  intro a said e d o h
  by_cases c:a<b.size
  ·by_cases k:bt b a=39
   ·rw[Lx b a said c k] at h;cases h;exact⟨by omega,by omega,by omega⟩
   ·by_cases l:bt b a=10
    ·rw[IJ b a said c l] at h;cases h
    ·by_cases f:bt b a=92
     ·by_cases m:a+1<b.size
      ·
       cases i:lD (bt b (a+1)) with
       | none=>rw[YF b a said c f (λ_=>i)] at h;cases h
       | some n=>
        rw[Dj b a said n c f m i] at h;have:=j (b.size - (a+2)) O9 (a+2) _ e d rfl h;rw[gj,lh] at this;omega
      ·rw[YF b a said c f (λi=>absurd i m)] at h;cases h
     ·rw[K2 b a said c k l f] at h;have:=j (b.size - (a+1)) O9 (a+1) _ e d rfl h;rw[gj,lh] at this;omega
  ·rw[DP b a said c] at h;cases h
def Ji (n f:List Py)(a:Py)(b:Nat)(q r:Int)(s:Py)(g:Nat)(e:b<a.size)(p:∀ c ∈ f,1<=c.size)
  (h:Xf n f a b=.tok q s r g):b<g/\g<=a.size:=by
 have o:=tX a b e;unfold Xf at h;rw[o] at h
 split at h
 ·rename_i k
  have d:Xx (a[b].toNat:Int)=true:=by unfold Xx;rw[k];rfl
  have i:=Zk Xx a b e d;have j:=V9 Xx a (b+1);have l:=UL Xx a b O9;unfold Vr at h
  split at h
  ·
   cases h;omega
  ·split at h
   ·
    cases h
   ·
    cases h;omega
 ·split at h
  ·rename_i d
   have i:=Zk Rk a b e d;have j:=V9 Rk a (b+1);have l:=UL Rk a b O9;unfold rdNum at h
   split at h
   ·
    cases h
   ·split at h
    ·
     cases h
    ·split at h
     ·
      cases h
     ·
      cases h;omega
  ·split at h
   ·unfold rdStr at h
    cases d:Xu a (b+1) [] with
    | ok said k=>
     rw[d] at h;simp only at h;have m:=M3 a _ (b+1) [] said k rfl d
     split at h
     ·
      cases h
     ·
      cases h;omega
    | f0 k=>rw[d] at h;cases h
   ·unfold WE at h
    cases d:f.find? (λc=>oX (a.extract b a.size) c) with
    | none=>rw[d] at h;cases h
    | some c=>
     rw[d] at h;obtain⟨_,_,_,u⟩:=Rd.tok.inj h;have k:=h7 d;have m:=m8 d;have i:=p c k;simp only[oX,kw,decide_eq_true_eq] at m;have t:=extract_size a b a.size O9 Qp;omega
inductive Tr where
 | mk (kd:Int) (tx:Py) (n:Int) (fJ:List Tr)
def Tr.kd:Tr->Int | .mk a _ _ _=>a
def Tr.tx:Tr->Py | .mk _ a _ _=>a
def Tr.n:Tr->Int | .mk _ _ a _=>a
def Tr.fJ:Tr->List Tr | .mk _ _ _ a=>a
inductive PR (α:Type) where
 | ok (x:α) (i:Nat)
 | f0 (er:Int) (p:Nat)
 | out
def PR.bind {α β:Type}:PR α->(α->Nat->PR β)->PR β
 | .ok x b,a=>a x b
 | .f0 a b,_=>.f0 a b
 | .out,_=>.out
abbrev O8:Py:=⟨#[]⟩
abbrev y8:Py:=⟨#[118,97,114]⟩
abbrev x8:Py:=⟨#[108,101,116]⟩
abbrev vH:Py:=⟨#[99,111,110,115,116]⟩
abbrev QL:Py:=⟨#[102,117,110,99,116,105,111,110]⟩
abbrev wU:Py:=⟨#[105,102]⟩
abbrev pP:Py:=⟨#[101,108,115,101]⟩
abbrev yj:Py:=⟨#[119,104,105,108,101]⟩
abbrev yQ:Py:=⟨#[119,105,116,104]⟩
abbrev yV:Py:=⟨#[114,101,116,117,114,110]⟩
abbrev xF:Py:=⟨#[116,104,114,111,119]⟩
abbrev md:Py:=⟨#[116,114,121]⟩
abbrev VT:Py:=⟨#[99,97,116,99,104]⟩
abbrev SS:Py:=⟨#[102,105,110,97,108,108,121]⟩
abbrev Oj:Py:=⟨#[116,121,112,101,111,102]⟩
abbrev Wc:Py:=⟨#[100,101,108,101,116,101]⟩
abbrev n8:Py:=⟨#[116,114,117,101]⟩
abbrev Yk:Py:=⟨#[102,97,108,115,101]⟩
abbrev qa:Py:=⟨#[110,117,108,108]⟩
abbrev azX:Py:=⟨#[117,110,100,101,102,105,110,101,100]⟩
abbrev Rz:Py:=⟨#[40]⟩
abbrev Tt:Py:=⟨#[41]⟩
abbrev TT:Py:=⟨#[123]⟩
abbrev V5:Py:=⟨#[125]⟩
abbrev Q9:Py:=⟨#[59]⟩
abbrev XK:Py:=⟨#[44]⟩
abbrev rB:Py:=⟨#[58]⟩
abbrev rI:Py:=⟨#[46]⟩
abbrev iX:Py:=⟨#[61]⟩
abbrev tOr:Py:=⟨#[124,124]⟩
abbrev aLw:Py:=⟨#[38,38]⟩
abbrev aEz:Py:=⟨#[61,61,61]⟩
abbrev aEA:Py:=⟨#[60]⟩
abbrev aLx:Py:=⟨#[43]⟩
abbrev OW:Py:=⟨#[45]⟩
abbrev aLz:Py:=⟨#[42]⟩
abbrev TX:Py:=⟨#[33]⟩
abbrev WO:Py:=⟨#[115,116,114,105,99,116]⟩
abbrev nn:Py:=⟨#[117,115,101,32,115,116,114,105,99,116]⟩
structure Sg where
 tx:Py
 kd:Int
 parts:Int
 str:Int
def ZH:List Sg:=[⟨tOr,25,2,2⟩,⟨aLw,26,2,3⟩,⟨aEz,27,2,4⟩,⟨aEA,28,2,5⟩,⟨aLx,29,2,6⟩,⟨OW,30,2,6⟩,⟨aLz,31,2,7⟩,⟨TX,32,1,8⟩,⟨Oj,33,1,8⟩,⟨Wc,34,1,8⟩,⟨n8,19,0,10⟩,⟨Yk,20,0,10⟩,⟨qa,21,0,10⟩,⟨azX,22,0,10⟩]
def hv:List (Py × Int):=[(y8,2),(x8,3),(vH,4),(wU,7),(yj,8),(yQ,9),(yV,10),(xF,11)]
def U5:List (Py × Nat):=[(y8,0),(x8,0),(vH,0),(QL,1),(TT,2),(Q9,3),(wU,4),(yj,5),(yQ,5),(yV,6),(xF,6),(md,7)]
def Ue:List (Py × Nat):=[(Rz,0),(TT,1),(QL,2)]
def RI {β:Type}(b:List (Py × β))(c:Py):Option β:=(b.find? (λa=>decide (c=a.1))).map (·.2)
def kW (b:Py):Option Sg:=ZH.find? (λa=>decide (b=a.tx))
def iu (b:Int)(c:Py):Option Sg:=(kW c).filter (λa=>a.parts==b)
def Q7 (a:Py):Int:=(RI hv a).getD 0
section
variable (a:List Tk)
def Qe (b:Nat):Tk:=a.getD b ⟨6,O8,0,0⟩
def fx (b:Nat):Py:=if (Qe a b).kd==2||(Qe a b).kd==5 then (Qe a b).tx else O8
def YS {α:Type}(b:Int)(c:Nat):PR α:=.f0 b (Qe a c).pl
def Qm (c:Py)(b:Nat):PR Unit:=if fx a b=c then .ok () (b+1) else YS a 3 b
def gC (b:Nat):PR Py:=if (Qe a b).kd=1 then .ok (Qe a b).tx (b+1) else YS a 3 b
def Qw (d:Nat->Nat->PR Tr)(b c:Nat):PR Tr:=if b=30 then YS a 4 c else d (b+1) c
def gS (b:Nat):Bool:=(Qe a b).kd==1
def hO (b:Nat):Bool:=(Qe a b).kd==1||(Qe a b).kd==3||(Qe a b).kd==4||(RI Ue (fx a b)).isSome||((kW (fx a b)).filter (λc=>decide (c.parts<2))).isSome
structure Um where
 fuel:Nat
 st:Nat->Nat->PR Tr
 vl:Nat->Nat->PR Tr
 pr:Int->Nat->Nat->PR Tr
 sg:Nat->Nat->PR Tr
def aEB:Um:=⟨0,λ_ _=>.out,λ_ _=>.out,λ_ _ _=>.out,λ_ _=>.out⟩
def Uu (shut:Py)(begins:Nat->Bool)(part:Nat->PR Tr):Nat->List Tr->Nat->PR (List Tr)
 | 0,_,_=>.out
 | f+1,c,d=>if c.length=8/\begins d=true then YS a 4 d else
  (part d).bind λe b=>if fx a b=shut then .ok (c++[e]) (b+1) else
   (Qm a XK b).bind λ_ i2=>Uu shut begins part f (c++[e]) i2
def XB (e shut:Py)(begins:Nat->Bool)(part:Nat->PR Tr)(d c:Nat):PR (List Tr):=
 (Qm a e c).bind λ_ b=>if fx a b=shut then .ok [] (b+1) else Uu a shut begins part d [] b
def VJ:Tr->Tr
 | .mk j n l (.mk b k e (.mk c d g i::f)::m)=>.mk j (if b=15/\c=18/\d=nn then WO else n) l (.mk b k e (.mk c d g i::f)::m)
 | b=>b
def RF (c:Um)(e:Nat):Nat->List Tr->Nat->PR (List Tr)
 | 0,_,_=>.out
 | g+1,d,b=>if fx a b=V5 then .ok d (b+1) else
  (Qw a c.st e b).bind λi f=>RF c e g (d++[i]) f
def QO (b:Um)(d e:Nat):PR Tr:=
 (Qm a TT e).bind λ_ c=>(RF a b d b.fuel [] c).bind λf i2=>.ok (.mk 6 O8 0 f) i2
def VU (c:Nat):PR Tr:=(gC a c).bind λd b=>.ok (.mk 23 d 0 []) b
def Ug (b:Um)(d:Nat):PR Tr:=(XB a Rz Tt (gS a) (VU a) b.fuel d).bind λe c=>.ok (.mk 40 O8 0 e) c
def oz (b:Um)(c d:Nat):PR Tr:=Qw a b.vl c d
def XZ (b:Um)(d e:Nat):PR Tr:=
 (gC a e).bind λg c=>(Qm a rB c).bind λ_ i2=>(Qw a b.vl d i2).bind λi f=>.ok (.mk 39 g 0 [i]) f
def Vu (b:Um)(d e:Nat):PR Tr:=
 (Qm a Rz e).bind λ_ c=>(Qw a b.vl d c).bind λg i2=>(Qm a Tt i2).bind λ_ f=>.ok g f
def WU (b:Um)(d e:Nat):PR Tr:=
 (XB a TT V5 (gS a) (XZ a b d) b.fuel e).bind λf c=>.ok (.mk 38 O8 0 f) c
def TI (b:Um)(g:Int)(j:Py)(e f:Nat):PR Tr:=
 (Ug a b f).bind λi c=>(QO a b e c).bind λd i2=>.ok (.mk g j 0 [i,VJ d]) i2
def WV (c:Um)(d e:Nat):PR Tr:=
 (Qm a QL e).bind λ_ b=>if gS a b=true then (gC a b).bind λf i2=>TI a c 37 f d i2 else TI a c 37 O8 d b
def n4 (b:Um)(d e:Nat):PR Tr:=
 (Qm a QL e).bind λ_ c=>(gC a c).bind λf i2=>TI a b 5 f d i2
def WH (c:Um)(d b:Nat):PR Tr:=
 match RI Ue (fx a b) with
 | some 0=>Vu a c d b
 | some 1=>WU a c d b
 | some _=>WV a c d b
 | none=>
  match iu 0 (fx a b) with
  | some e=>.ok (.mk e.kd O8 0 []) (b+1)
  | none=>
   if (Qe a b).kd=1 then .ok (.mk 23 (Qe a b).tx 0 []) (b+1)
   else if (Qe a b).kd=4 then .ok (.mk 18 (Qe a b).tx 0 []) (b+1)
   else if (Qe a b).kd=3 then .ok (.mk 17 O8 (Qe a b).n []) (b+1)
   else YS a 3 b
def TJ (c:Um)(e:Nat):Nat->Tr->Nat->PR Tr
 | 0,_,_=>.out
 | g+1,f,b=>
  if fx a b=rI then (gC a (b+1)).bind λi d=>TJ c e g (.mk 36 i 0 [f]) d
  else if fx a b=Rz then (XB a Rz Tt (hO a) (oz a c e) c.fuel b).bind λj d=>TJ c e g (.mk 35 O8 0 (f::j)) d
  else .ok f b
def VW (b:Um)(c e:Nat):PR Tr:=(WH a b c e).bind λf d=>TJ a b c b.fuel f d
def Vw (c:Um)(d b:Nat):PR Tr:=
 match iu 1 (fx a b) with
 | some f=>(Qw a c.sg d (b+1)).bind λg e=>.ok (.mk f.kd O8 0 [g]) e
 | none=>VW a c d b
def UQ (e:Um)(least:Int)(f:Nat):Nat->Tr->Nat->PR Tr
 | 0,_,_=>.out
 | i+1,d,b=>
  match iu 2 (fx a b) with
  | none=>.ok d b
  | some c=>if c.str<least then .ok d b else (e.pr (c.str+1) f (b+1)).bind λj g=>UQ e least f i (.mk c.kd O8 0 [d,j]) g
def Y8 (b:Um)(least:Int)(c e:Nat):PR Tr:=(b.sg c e).bind λf d=>UQ a b least c b.fuel f d
def Xl (d:Um)(e f:Nat):PR Tr:=
 (d.pr 2 e f).bind λb c=>if fx a c=iX then
   (if b.kd=23\/b.kd=36 then (Qw a d.vl e (c+1)).bind λg i2=>.ok (.mk 24 O8 0 [b,g]) i2 else YS a 1 f)
  else .ok b c
def oB (e:Um)(f c:Nat):PR Tr:=
 (gC a (c+1)).bind λd b=>
  if Q7 (Qe a c).tx=4/\¬ fx a b=iX then YS a 3 b
  else if fx a b=iX then (Qw a e.vl f (b+1)).bind λi i2=>(Qm a Q9 i2).bind λ_ g=>.ok (.mk (Q7 (Qe a c).tx) d 0 [i]) g
  else (Qm a Q9 b).bind λ_ i2=>.ok (.mk (Q7 (Qe a c).tx) d 0 []) i2
def UE (b:Um)(c d:Nat):PR Tr:=
 (Vu a b c (d+1)).bind λg e=>(Qw a b.st c e).bind λf i2=>.ok (.mk (Q7 (Qe a d).tx) O8 0 [g,f]) i2
def WW (b:Um)(c d:Nat):PR Tr:=
 (Vu a b c (d+1)).bind λf g=>(Qw a b.st c g).bind λe i2=>
  if fx a i2=pP then (Qw a b.st c (i2+1)).bind λs2 i=>.ok (.mk (Q7 (Qe a d).tx) O8 0 [f,e,s2]) i
  else .ok (.mk (Q7 (Qe a d).tx) O8 0 [f,e]) i2
def XC (c:Um)(e b:Nat):PR Tr:=
 if Q7 (Qe a b).tx=11\/¬ fx a (b+1)=Q9 then (Qw a c.vl e (b+1)).bind λf d=>(Qm a Q9 d).bind λ_ i2=>.ok (.mk (Q7 (Qe a b).tx) O8 0 [f]) i2
 else (Qm a Q9 (b+1)).bind λ_ i2=>.ok (.mk (Q7 (Qe a b).tx) O8 0 []) i2
def pZ (c:Um)(f b:Nat):PR (List Tr):=
 if fx a b=VT then (Qm a Rz (b+1)).bind λ_ d=>(gC a d).bind λj i2=>(Qm a Tt i2).bind λ_ g=>(QO a c f g).bind λe i=>.ok [.mk 13 j 0 [e]] i
 else .ok [] b
def Xm (c:Um)(f b:Nat):PR (List Tr):=
 if fx a b=SS then (QO a c f (b+1)).bind λe d=>.ok [.mk 14 O8 0 [e]] d
 else .ok [] b
def Xn (b:Um)(c j:Nat):PR Tr:=
 (Qm a md j).bind λ_ k=>(QO a b c k).bind λi g=>(pZ a b c g).bind λd i2=>(Xm a b c i2).bind λe f=>
  if d.length+e.length=0 then YS a 3 f else .ok (.mk 12 O8 0 (i::(d++e))) f
def o3 (b:Um)(d e:Nat):PR Tr:=(Qw a b.vl d e).bind λf c=>(Qm a Q9 c).bind λ_ i2=>.ok (.mk 15 O8 0 [f]) i2
def nM (b:Um)(c:Nat):Nat->Nat->PR Tr
 | 0=>oB a b c
 | 1=>n4 a b c
 | 2=>QO a b c
 | 3=>λe=>(Qm a Q9 e).bind λ_ d=>.ok (.mk 16 O8 0 []) d
 | 4=>WW a b c
 | 5=>UE a b c
 | 6=>XC a b c
 | _=>Xn a b c
def SX (c:Um)(d b:Nat):PR Tr:=
 match RI U5 (fx a b) with
 | some e=>nM a c d e b
 | none=>o3 a c d b
def iN:Nat->Um
 | 0=>aEB
 | b+1=>⟨b,SX a (iN b),Xl a (iN b),Y8 a (iN b),Vw a (iN b)⟩
def Sl (c:Um):Nat->List Tr->Nat->PR (List Tr)
 | 0,_,_=>.out
 | f+1,d,b=>if (Qe a b).kd=6 then .ok d b else
  (Qw a c.st 0 b).bind λg e=>Sl c f (d++[g]) e
def Wh (b:Um):PR Tr:=(Sl a b b.fuel [] 0).bind λd c=>.ok (VJ (.mk 1 O8 0 d)) c
end
mutual
def Tr.count:Tr->Nat
 | .mk _ _ _ a=>1+Tr.f1 a
def Tr.f1:List Tr->Nat
 | []=>0
 | a::b=>a.count+Tr.f1 b
end
def Nx {α:Type}(e:Prop)(c d:Nat)(b:PR α):Prop:=(e->b≠.out)/\∀ x a,b=.ok x a->d<=a/\a<c
section
variable {α:Type} {a:Prop}
include α a
def Nx.ok {c d b:Nat}{x:α}(f:d<=b)(e:b<c):Nx a c d (.ok x b):=
 ⟨λ_ h=>by (cases h),λ_ _ h=>by cases h;exact⟨f,e⟩⟩
def Nx.f0 {b c:Nat}{d:Int}{e:Nat}:Nx (α:=α) a b c (.f0 d e):=
 ⟨λ_ h=>by (cases h),λ_ _ h=>by (cases h)⟩
def Nx.YS {b c:Nat}{f:List Tk}{d:Int}{e:Nat}:Nx (α:=α) a b c (YS f d e):=Nx.f0
end
def Nx.bind {α β:Type}{c:Prop}{b e f:Nat}{d:PR α}{g:α->Nat->PR β}(h:Nx c b e d)(i:∀ x a,e<=a->a<b->Nx c b f (g x a)):Nx c b f (d.bind g):=by
 cases d with
 | ok x a=>exact i x a (h.2 x a rfl).1 (h.2 x a rfl).2
 | f0 j k=>exact Nx.f0
 | out=>exact⟨λj=>absurd rfl (h.1 j),λ_ _ h=>by cases h⟩
def Nx.imp {α:Type}{c q':Prop}{a b:Nat}{d:PR α}(h:Nx c a b d)(e:q'->c):Nx q' a b d:=⟨λx=>h.1 (e x),h.2⟩
def Nx.le {α:Type}{f:Prop}{a c b:Nat}{g:PR α}(h:Nx f a c g)(i:b<=c):Nx f a b g:=⟨h.1,λx e d=>⟨f9 i (h.2 x e d).1,(h.2 x e d).2⟩⟩
def Ends (b:List Tk):Prop:=∀ a,a<b.length->((Qe b a).kd=6↔a+1=b.length)
section
variable {a:List Tk} (c:Ends a)
include c
def V6 {b:Nat}(d:b<a.length)(h:(Qe a b).kd≠6):b+1<a.length:=by
 have:=mt (c b d).2 h;omega
def XD {b:Nat}{d:Py}(f:b<a.length)(h:fx a b=d)(e:d≠O8):b+1<a.length:=by
 refine V6 c f λg=>e ?_;rw[<-h,fx,g];rfl
def ard {β:Type}{d:List (Py × β)}{x:β}{b:Nat}(e:b<a.length)(h:RI d (fx a b)=some x)(f:RI d O8=none):b+1<a.length:=by
 refine XD c e rfl λg=>?_;rw[g,f] at h;cases h
def p7 {d:Int}{x:Sg}{b:Nat}(e:b<a.length)(h:iu d (fx a b)=some x):b+1<a.length:=by
 refine XD c e rfl λf=>?_;rw[f] at h;have:iu d O8=none:=by
  have:kW O8=none:=by decide
  simp[iu,this]
 rw[this] at h;cases h
def RJ {g:Prop}{d:Py}{b:Nat}(f:b<a.length)(e:d≠O8):Nx g a.length (b+1) (Qm a d b):=by
 unfold Qm
 split
 ·exact Nx.ok Qp (XD c f ‹_› e)
 ·exact Nx.YS
def Wn {d:Prop}{b:Nat}(e:b<a.length):Nx d a.length (b+1) (gC a b):=by
 unfold gC
 split
 ·rename_i h
  exact Nx.ok Qp (V6 c e (by rw[h];decide))
 ·exact Nx.YS
omit c in
theorem Sv {f:Prop}{e:Nat->Nat->PR Tr}{b d:Nat}(h:Nx f a.length (d+1) (e (b+1) d)):Nx f a.length (d+1) (Qw a e b d):=by
 unfold Qw
 split
 ·exact Nx.YS
 ·exact h
def aiL {i:Prop}{shut:Py}{begins:Nat->Bool}{part:Nat->PR Tr}{e:Nat}(k:shut≠O8)(l:∀ b,e<=b->b<a.length->Nx i a.length (b+1) (part b)) :
  ∀ d f b,e<=b->b<a.length->Nx (i/\a.length - b<d) a.length (b+1) (Uu a shut begins part d f b):=by
 intro d
 induction d with
 | zero=>intro f b _ _;exact⟨λh=>absurd h.2 O9,λ_ _ h=>by (cases h)⟩
 | succ d n=>
  intro f b p m;unfold Uu
  split
  ·exact Nx.YS
  ·refine Nx.bind ((l b p m).imp And.left) λt s r g=>?_
   split
   ·exact Nx.ok O9 (XD c g ‹_› k)
   ·refine Nx.bind (RJ c g Pm) λ_ o q j=>?_;exact((n _ o O9 j).le O9).imp λh=>⟨h.1,by omega⟩
def te {e:Prop}{j shut:Py}{begins:Nat->Bool}{part:Nat->PR Tr}{f d:Nat}(p:d<a.length)(k:j≠O8)(i:shut≠O8)(m:e->a.length - d<=f)(o:∀ b,d<b->b<a.length->Nx e a.length (b+1) (part b)) :
  Nx e a.length (d+1) (XB a j shut begins part f d):=by
 unfold XB;refine Nx.bind (RJ c p k) λ_ b q g=>?_
 split
 ·exact Nx.ok O9 (XD c g ‹_› i)
 ·exact((aiL c i (e:=d+1) (λb n l=>o b n l) f [] b q g).le O9).imp λh=>⟨h,by have:=m h;omega⟩
structure jW (l:List Tk)(k:Nat)(F:Um):Prop where
 fuel:F.fuel=k - 1
 st:∀ d i,i<l.length->Nx (8 * (l.length - i)+3<k) l.length (i+1) (F.st d i)
 vl:∀ d i,i<l.length->Nx (8 * (l.length - i)+2<k) l.length (i+1) (F.vl d i)
 pr:∀ b d i,i<l.length->Nx (8 * (l.length - i)+1<k) l.length (i+1) (F.pr b d i)
 sg:∀ d i,i<l.length->Nx (8 * (l.length - i)<k) l.length (i+1) (F.sg d i)
variable {e:Nat} {d:Um} (b:jW a e d)
include b
def agz {m:Prop}{k:Nat}(o:m->8 * (a.length - k)<=e+4):∀ i g j f,k<f->f<a.length->Nx (m/\a.length - f<i) a.length (f+1) (RF a d g i j f):=by
 intro i
 induction i with
 | zero=>intro g j f _ _;exact⟨λh=>absurd h.2 O9,λ_ _ h=>by (cases h)⟩
 | succ i p=>
  intro g j f s l;unfold RF
  split
  ·exact Nx.ok O9 (XD c l ‹_› Pm)
  ·refine Nx.bind (Sv ((b.st (g+1) f l).imp λh=>?_)) λt q r n=>((p g _ q O9 n).le O9).imp λh=>⟨h.1,by omega⟩;have:=o h.1;omega
def X0 {k:Prop}{i f:Nat}(n:f<a.length)(g:k->8 * (a.length - f)<=e+4):Nx k a.length (f+1) (QO a d i f):=by
 unfold QO;refine Nx.bind (RJ c n Pm) λ_ j q l=>?_;refine Nx.bind (((agz c b g d.fuel i [] j O9 l).le (b:=j) O9).imp λh=>⟨h,?_⟩) λr p o m=>Nx.ok O9 m;have:=g h;rw[b.fuel];omega
omit b in
theorem J7 {g:Prop}{f:Nat}(j:f<a.length):Nx g a.length (f+1) (VU a f):=by
 unfold VU;exact Nx.bind (Wn c j) λm l k i=>Nx.ok k i
def Mr {g:Prop}{f:Nat}(k:f<a.length)(j:g->8 * (a.length - f)<=e+4):Nx g a.length (f+1) (Ug a d f):=by
 unfold Ug;refine Nx.bind (te c k Pm Pm (λh=>?_) λm _ h=>J7 c h) λn m l i=>Nx.ok l i;have:=j h;rw[b.fuel];omega
omit c in
theorem zo {g:Prop}{k f:Nat}(j:f<a.length)(i:g->8 * (a.length - f)+2<e):Nx g a.length (f+1) (oz a d k f):=Sv ((b.vl _ _ j).imp i)
section
variable {g:Prop} {k f:Nat} (j:f<a.length) (i:g->8 * (a.length - f)<=e+4)
include g k f j i
def C5:Nx g a.length (f+1) (XZ a d k f):=by
 unfold XZ;refine Nx.bind (Wn c j) λu t r l=>?_;refine Nx.bind (RJ c l Pm) λ_ q o m=>?_;exact Nx.bind (Sv ((b.vl _ _ m).imp λh=>by have:=i h;omega)) λv s p n=>Nx.ok O9 n
def xA:Nx g a.length (f+1) (Vu a d k f):=by
 unfold Vu;refine Nx.bind (RJ c j Pm) λ_ r p l=>?_;refine Nx.bind (Sv ((b.vl _ _ l).imp λh=>by have:=i h;omega)) λu s q m=>?_
 exact Nx.bind (RJ c m Pm) λ_ o t n=>Nx.ok O9 n
def X1:Nx g a.length (f+1) (WU a d k f):=by
 unfold WU;refine Nx.bind (te c j Pm Pm (λh=>?_) λo l h=>C5 c b h λn=>by have:=i n;omega) λp o l m=>Nx.ok l m
 have:=i h;rw[b.fuel];omega
end
def Za {i:Prop}{n:Int}{o:Py}{m f:Nat}(l:f<a.length)(g:i->8 * (a.length - f)<=e+4):Nx i a.length (f+1) (TI a d n o m f):=by
 unfold TI;refine Nx.bind (Mr c b l g) λu t s j=>?_;exact Nx.bind (X0 c b j λh=>by have:=g h;omega) λq r p k=>Nx.ok O9 k
section
variable {j:Prop} {k g:Nat} (f:g<a.length) (i:j->8 * (a.length - g)<=e+4)
include j k g f i
def ak6:Nx j a.length (g+1) (WV a d k g):=by
 unfold WV;refine Nx.bind (RJ c f Pm) λ_ q p l=>?_
 split
 ·refine Nx.bind (Wn c l) λr o n m=>?_;exact(Za c b m λh=>by have:=i h;omega).le O9
 ·exact(Za c b l λh=>by have:=i h;omega).le O9
def arf:Nx j a.length (g+1) (n4 a d k g):=by
 unfold n4;refine Nx.bind (RJ c f Pm) λ_ q p l=>?_;refine Nx.bind (Wn c l) λr o n m=>?_;exact(Za c b m λh=>by have:=i h;omega).le O9
def Sw:Nx j a.length (g+1) (WH a d k g):=by
 unfold WH
 split
 ·exact xA c b f i
 ·exact X1 c b f i
 ·exact ak6 c b f i
 ·split
  ·rename_i m l
   exact Nx.ok Qp (p7 c f l)
  ·split
   ·rename_i h;exact Nx.ok Qp (V6 c f (by rw[h];decide))
   ·split
    ·rename_i h;exact Nx.ok Qp (V6 c f (by rw[h];decide))
    ·split
     ·rename_i h;exact Nx.ok Qp (V6 c f (by rw[h];decide))
     ·exact Nx.YS
end
def agB {q:Prop}{m:Nat}(n:q->8 * (a.length - m)<=e+4):∀ i g r f,m<f->f<a.length->Nx (q/\a.length - f<i) a.length f (TJ a d g i r f):=by
 intro i
 induction i with
 | zero=>intro g j f _ _;exact⟨λh=>absurd h.2 O9,λ_ _ h=>by (cases h)⟩
 | succ i o=>
  intro g r f t l;unfold TJ
  split
  ·have s:=XD c l ‹_› Pm;exact Nx.bind (Wn c s) λu j p k=>((o g _ j O9 k).le O9).imp λh=>⟨h.1,by omega⟩
  ·split
   ·refine Nx.bind (te c l Pm Pm (λh=>?_) λj p h=>zo b h λs=>by have:=n s.1;omega) λu j p k=>((o g _ j O9 k).le O9).imp λh=>⟨h.1,by omega⟩
    have:=n h.1;rw[b.fuel];omega
   ·exact Nx.ok Qp l
def P2 {j:Prop}{i f:Nat}(l:f<a.length)(g:j->8 * (a.length - f)<=e+4):Nx j a.length (f+1) (VW a d i f):=by
 unfold VW;refine Nx.bind (Sw c b l g) λn m o k=>((agB c b g d.fuel i n m O9 k).le O9).imp λh=>⟨h,?_⟩;have:=g h;rw[b.fuel];omega
def ak7 {k f:Nat}(g:f<a.length):Nx (8 * (a.length - f)<e+1) a.length (f+1) (Vw a d k f):=by
 unfold Vw
 split
 ·rename_i o j
  have l:=p7 c g j;exact Nx.bind (Sv ((b.sg _ _ l).imp λh=>by omega)) λp n m i=>Nx.ok O9 i
 ·exact P2 c b g λh=>by omega
def aiN {m:Prop}{k:Nat}(q:m->8 * (a.length - k)<=e+4):∀ g i j n f,k<f->f<a.length->Nx (m/\a.length - f<g) a.length f (UQ a d i j g n f):=by
 intro g
 induction g with
 | zero=>intro i j l f _ _;exact⟨λh=>absurd h.2 O9,λ_ _ h=>by (cases h)⟩
 | succ g r=>
  intro i j n f v l;unfold UQ
  split
  ·exact Nx.ok Qp l
  ·rename_i w p
   have s:=p7 c l p
   split
   ·exact Nx.ok Qp l
   ·refine Nx.bind ((b.pr _ _ _ s).imp λh=>?_) λz t u o=>((r i j _ t O9 o).le O9).imp λh=>⟨h.1,by omega⟩;have:=q h.1;omega
def arh {g:Int}{i f:Nat}(k:f<a.length):Nx (8 * (a.length - f)+1<e+1) a.length (f+1) (Y8 a d g i f):=by
 unfold Y8;refine Nx.bind ((b.sg _ _ k).imp λh=>by omega) λm l n j=>((aiN c b (k:=f) (m:=8 * (a.length - f)+1<e+1) (λh=>by omega) d.fuel g i m l O9 j).le O9).imp λh=>⟨h,?_⟩;rw[b.fuel];omega
def aoA {k f:Nat}(j:f<a.length):Nx (8 * (a.length - f)+2<e+1) a.length (f+1) (Xl a d k f):=by
 unfold Xl;refine Nx.bind ((b.pr _ _ _ j).imp λh=>by omega) λq p m g=>?_
 split
 ·have l:=XD c g ‹_› Pm
  split
  ·exact Nx.bind (Sv ((b.vl _ _ l).imp λh=>by omega)) λr o n i=>Nx.ok O9 i
  ·exact Nx.YS
 ·exact Nx.ok m g
def ari {g:Prop}{m f:Nat}(l:f<a.length)(k:g->8 * (a.length - f)+2<e):Nx g a.length (f+1) (o3 a d m f):=by
 unfold o3;refine Nx.bind (Sv ((b.vl _ _ l).imp k)) λr q p i=>?_;exact Nx.bind (RJ c i Pm) λ_ o n j=>Nx.ok O9 j
section
variable {j:Prop} {k f:Nat} (i:f+1<a.length) (g:j->8 * (a.length - f)<=e+4)
include j k f i g
def arj:Nx j a.length (f+1) (oB a d k f):=by
 unfold oB;refine Nx.bind (Wn c i) λv u t m=>?_
 split
 ·exact Nx.YS
 ·split
  ·have p:=XD c m ‹_› Pm;refine Nx.bind (Sv ((b.vl _ _ p).imp λh=>by have:=g h;omega)) λw s r n=>?_
   exact Nx.bind (RJ c n Pm) λ_ q o l=>Nx.ok O9 l
  ·exact Nx.bind (RJ c m Pm) λ_ q o l=>Nx.ok O9 l
def OE:Nx j a.length (f+1) (UE a d k f):=by
 unfold UE;refine Nx.bind (xA c b i λh=>by have:=g h;omega) λn r q l=>?_
 exact Nx.bind (Sv ((b.st _ _ l).imp λh=>by have:=g h;omega)) λn p o m=>Nx.ok O9 m
def ak9:Nx j a.length (f+1) (WW a d k f):=by
 unfold WW;refine Nx.bind (xA c b i λh=>by have:=g h;omega) λm v t n=>?_
 refine Nx.bind (Sv ((b.st _ _ n).imp λh=>by have:=g h;omega)) λm s q l=>?_
 split
 ·have p:=XD c l ‹_› Pm;exact Nx.bind (Sv ((b.st _ _ p).imp λh=>by have:=g h;omega)) λm u r o=>Nx.ok O9 o
 ·exact Nx.ok O9 l
def ala:Nx j a.length (f+1) (XC a d k f):=by
 unfold XC
 split
 ·refine Nx.bind (Sv ((b.vl _ _ i).imp λh=>by have:=g h;omega)) λr q p m=>?_
  exact Nx.bind (RJ c m Pm) λ_ o n l=>Nx.ok O9 l
 ·exact Nx.bind (RJ c i Pm) λ_ o n l=>Nx.ok O9 l
end
section
variable {j:Prop} {k f:Nat} (i:f<a.length) (g:j->8 * (a.length - f)<=e+4)
include j k f i g
def N1:Nx j a.length f (pZ a d k f):=by
 unfold pZ
 split
 ·have p:=XD c i ‹_› Pm;refine Nx.bind (RJ c p Pm) λ_ u w l=>?_;refine Nx.bind (Wn c l) λ_ v r m=>?_;refine Nx.bind (RJ c m Pm) λ_ z t n=>?_;exact Nx.bind (X0 c b n λh=>by have:=g h;omega) λs q A o=>Nx.ok O9 o
 ·exact Nx.ok Qp i
def WN:Nx j a.length f (Xm a d k f):=by
 unfold Xm
 split
 ·have m:=XD c i ‹_› Pm;exact Nx.bind (X0 c b m λh=>by have:=g h;omega) λo n p l=>Nx.ok O9 l
 ·exact Nx.ok Qp i
def aiP:Nx j a.length (f+1) (Xn a d k f):=by
 unfold Xn;refine Nx.bind (RJ c i Pm) λ_ p h o=>?_;refine Nx.bind (X0 c b o λh=>by have:=g h;omega) λr t z l=>?_
 refine Nx.bind (N1 c b l λh=>by have:=g h;omega) λu v q m=>?_
 refine Nx.bind (WN c b m λh=>by have:=g h;omega) λw A s n=>?_
 split
 ·exact Nx.YS
 ·exact Nx.ok O9 n
end
def ark {j:Prop}{m i l:Nat}(g:i+1<a.length)(f:j->8 * (a.length - i)<=e+4):Nx j a.length (i+1) (nM a d m l i):=by
 unfold nM
 split
 ·exact arj c b g f
 ·exact arf c b O9 f
 ·exact X0 c b O9 f
 ·exact Nx.bind (RJ c O9 Pm) λ_ o n k=>Nx.ok n k
 ·exact ak9 c b g f
 ·exact OE c b g f
 ·exact ala c b g f
 ·exact aiP c b O9 f
def ae0 {j f:Nat}(g:f<a.length):Nx (8 * (a.length - f)+3<e+1) a.length (f+1) (SX a d j f):=by
 unfold SX
 split
 ·rename_i k i
  exact ark c b (ard c g i Pm) λh=>by omega
 ·exact ari c b g λh=>by omega
omit b in
theorem zN:∀ e,jW a e (iN a e):=by
 intro e
 induction e with
 | zero=>exact⟨rfl,λ_ _ _=>⟨λh=>absurd h O9,λ_ _ h=>by (cases h)⟩,λ_ _ _=>⟨λh=>absurd h O9,λ_ _ h=>by (cases h)⟩,λ_ _ _ _=>⟨λh=>absurd h O9,λ_ _ h=>by (cases h)⟩,λ_ _ _=>⟨λh=>absurd h O9,λ_ _ h=>by (cases h)⟩⟩
 | succ e g=>exact⟨rfl,λ_ _ f=>ae0 c g f,λ_ _ f=>aoA c g f,λ_ _ _ f=>arh c g f,λ_ _ f=>ak7 c g f⟩
