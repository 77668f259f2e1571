import Derived.Test.YticfnaiehdpbmaaGreatDoorFa21
import Derived.Sort.Walk0
set_option maxRecDepth 100000
set_option maxHeartbeats 0
set_option linter.all false
namespace Go.Proofs.YticfnaiehdpbmaaGreatDoor
open Go.RowKit Go.Proofs.Tryz
namespace Hp
def xj:List (Int × Py × Py):=[(17,O8,vv),(18,O8,sl),(19,n8,XV),(20,Yk,XV),(21,qa,Xy),(22,QX,QX)]
def rO:Array Px:=(xj.flatMap λa=>[O3 a.1,Pj a.2.1,Pj a.2.2]).toArray
def VQ (c:Pe):Prop:=∃ b a,c.heap[5]? = some (.cells rO b a)
def VQ.fH {w w':Pe}(h:VQ w)(a:Pn w w'):VQ w':=by
 obtain⟨c,b,h⟩:=h;exact⟨c,b,(a.block _ (fI h)).trans h⟩
abbrev qd (x:Int)(b a:Py):Px:=.agg #[O3 x,Pj b,Pj a]
def oi (a:Nat):Int × Py × Py:=xj.getD a (0,O8,O8)
def kO (a:Int):Int × Py × Py:=if 17<=a/\a<=22 then oi (a - 17).toNat else (0,O8,O8)
def Wo:rO.size=18:=by decide +kernel
def aD9 (a:Nat)(c:a<6)(b:Pe):(Instr.index 289 (.agg rO) (O3 (a:Int))).run prog b=.ok (qd (oi a).1 (oi a).2.1 (oi a).2.2) b:=by
 have h:a=0\/a=1\/a=2\/a=3\/a=4\/a=5:=O9
 rcases h with rfl|rfl|rfl|rfl|rfl|rfl <;> (show _=_;kernel_rfl)
def aLt (a:Nat)(b:a<6):(oi a).1=17+a:=by
 have h:a=0\/a=1\/a=2\/a=3\/a=4\/a=5:=O9
 rcases h with rfl|rfl|rfl|rfl|rfl|rfl <;> rfl
def Wi (d:Tr)(t:Nat)(w:Pe)(h:TV w d t)(aS:VQ w):Pq 184 #[O5 t] w λaX aL=>aX=PK (.tuple #[qd (kO d.kd).1 (kO d.kd).2.1 (kO d.kd).2.2,Pv (RY d)])/\Pn w aL:=by
 obtain⟨aU,F,_⟩:=h.cells;obtain⟨aI,ax,aC⟩:=aS;have O:=Y aC;obtain⟨p,q⟩:=xE rO;have aF:∀ m:Nat,m<6->∀ W,(Instr.index 289 (.agg p) (O3 (m:Int))).run prog W=.ok (qd (oi m).1 (oi m).2.1 (oi m).2.2) W:=by rw[q];exact aD9
 have ah:p.size=18:=by rw[q];exact Wo
 rw[<-q] at O;have a6:=Y aF;have aZ:=Y ah;have a7:Hid (RY d=decide (17<=d.kd/\d.kd<=22)):=rfl;rw[a7.out]
 generalize d.kd=a at F ⊢
 clear h aC aF q ah;obtain⟨l,I⟩:=xE w.heap.size;obtain⟨z,E⟩:=xH (w.alloc (.cells #[O3 0,Qn,Qn] 245));have aK:Hid (z.heap[l]? = some (PZ #[O3 0,Qn,Qn] 245)):=by rw[E.out,I];exact Ph _ _
 have aD:w.heap.size<=l:=O9;have k:Pn w z:=by rw[E.out];exact QJ
 have ad:=PN k F;have a8:t<z.heap.size:=by have:=k.size;omega
 have aO:Hid ((w.alloc (.cells #[O3 0,Qn,Qn] 245)).heap[5]? = some (.cells p aI ax)):=(gd w _ 5 (fI O.out)).trans O.out;clear F aU;go_enter func184,ntmps184
 go_wp2_with (refine jJ rfl 289 _ rfl 5 rfl aI p ax _ aO.out underlying289 rfl (by rw[aZ.out];kernel_rfl) ?_)
 rw[<-E.out,<-I];clear I
 go_loopw [7] (λS wr=>∃ b:Nat,b<=6/\S=O3 b/\(17<=a->17+(b:Int)<=a)/\Pn z wr) (λS _=>6 - (intOf S).toNat)
 case atStart=>exact⟨0,f3 _,rfl,λh=>by omega,RP⟩
 case round=>
  obtain⟨b,ba,rfl,n,e⟩:=hrel;have a1:=PN e ad;have bq:t<wr.heap.size:=by have:=e.size;omega
  have X:=fQ e aK.out;obtain⟨H,D,L,c,aG⟩:=fX X;have aj:=c 0;have ak:=c 1;have am:=c 2;clear c ad
  by_cases ac:b<6
  ·have ap:=O4 a6 b ac;have o:=aLt b ac;obtain⟨x,B⟩:=xE (oi b);rw[<-B] at ap o;obtain⟨r,i,j⟩:=x;have o:r=17+b:=o;have aW:=Y B;clear B
   by_cases f:a=17+b
   ·have ai:r=a:=O9;have g:=Y f;clear f o n;go_wp2_with fail
    go_region
    obtain⟨C,T⟩:=xH (wr.alloc (.cells #[O3 a,Pj i,Pj j] 245)).drew;have A:C.heap[wr.heap.size]? = some (PZ #[O3 a,Pj i,Pj j] 245):=by rw[T.out];exact Ph _ _
    have au:Pn wr C:=by rw[T.out];exact QJ.drew
    have s:=fQ au X;have bi:=Y s;have aY:=e.trans (au.mono e.size);obtain⟨bn,M⟩:=xE wr.heap.size;rw[<-M] at A;clear H D L aj ak am aG a1 ap;obtain⟨bh,bc,bf,_,bo⟩:=fX A;obtain⟨aQ,U⟩:=xH (((C.setCell (O7 l 0) (O3 a)).setCell (O7 l 1) (Pj i)).setCell (O7 l 2) (Pj j));have N:=lq s (O3 a) (Pj i) (Pj j);rw[<-U.out] at N;obtain⟨bm,be,bj,_,_⟩:=fX N;have aV:Pn w aQ:=by rw[U.out];exact hj (k.trans (aY.mono k.size)) aD _ _ _
    obtain⟨H,D,L,c,aG⟩:=fX s;have aj:=c 0;have ak:=c 1;have am:=c 2;clear c N A s X;rw[<-T.out,<-M];clear M;go_wp2_with fail;rw[<-U.out];refine XW (v:=.tuple #[qd a i j,Pv true]) ⟨?_,aV⟩
    ·have ay:17<=a/\a<=22:=by have:=O4 g;omega
     have aN:(a - 17).toNat=b:=by have:=O4 g;omega
     unfold kO;rw[fL ay,aN,<-aW.out,g4 ay]
     show _=PK (.tuple #[qd r i j,Pv true])
     rw[ai]
   ·have ai:¬ r=a:=O9;have g:=Y f;have s:=Y n;clear f o n;go_wp2_with fail
    go_region
    go_wp2
    go_roundw
    case rel=>exact⟨b+1,by omega,by go_num,λh=>by have:=O4 s h;have:=O4 g;push_cast;omega,(e.alloc e.size _).drew⟩
    case measure=>simp[intOf];omega
  ·have f:¬ (17<=a/\a<=22):=λh=>by have:=n h.1;omega
   have g:=Y f;clear f n;go_wp2_with fail;refine hf (v:=.tuple #[qd 0 O8 O8,Pv false]) (by simp[results,results184,go_sem,H,D,L]) rfl ⟨?_,?_⟩
   ·unfold kO;rw[fK g.out,gN g.out]
   ·exact hj (k.trans (e.mono k.size)) aD _ _ _
def Qa.c2 {e:Nat->Prop}{c:Pe}{b:Tr}{a:Nat}(h:Qa e c b a):c.cell? (O7 a 2)=some (O3 b.n):=by
 obtain⟨g,f,d,_⟩:=Qa.Uf h;exact(fZ d).2.2.1
def avf (a:Pe)(b c:Int)(d:Py):Qa (gp a.heap.size) (a.alloc (Qc b d c Q8)) (.mk b d c []) a.heap.size:=by
 rw[Qa];exact⟨g9 _,Q8,[],Ph _ _,⟨⟨rfl,fM ⟨rfl,rfl⟩⟩,by simp[Value.ownBlock]⟩,PE.nil⟩
def ii (e:Option Tr)(d:Pe)(b:Ending)(a:Pe):Prop:=Pn d a/\match e with
 | none=>b=PK (.pointer none)
 | some f=>∃ c,b=PK (O5 c)/\Qa (gp d.heap.size) a f c
def vz (a:Pe)(b c:Int)(d:Py):ii (some (.mk b d c [])) a (PK (O5 a.heap.size)) (a.alloc (Qc b d c Q8)):=⟨QJ,_,rfl,avf _ _ _ _⟩
def zq (a:Pe):ii none a (PK Ry) a:=⟨RP,rfl⟩
def VR (b:Bool)(a:Pe):Pq 185 #[Pv b] a (ii (some (ZI b)) a):=by
 cases b
 ·go_enter func185,ntmps185;go_wp2;go_ret;exact vz a 20 0 O8
 ·go_enter func185,ntmps185;go_wp2;go_ret;exact vz a 19 0 O8
def w9 (a:Int)(b:Pe):Pq 243 #[.int .i64 a] b (ii (nZ a) b):=by
 unfold nZ
 by_cases e:a<0
 ·rw[fL (fM e)];go_enter func243,ntmps243;go_wp2;go_ret;exact zq b
 ·by_cases c:1000000000<a
  ·rw[fL (fU c)];have d:a > 1000000000:=c;go_enter func243,ntmps243;go_wp2;go_ret;exact zq b
  ·rw[fK O9];have d:¬ a > 1000000000:=c;go_enter func243,ntmps243;go_wp2;go_ret;exact vz b 17 a O8
def zk (a:Py)(b:Pe):Pq 187 #[Pj a] b (ii (nj a) b):=by
 unfold nj
 by_cases c:500<a.size
 ·rw[fL c];have d:(a.size:Int) > 500:=O9;go_enter func187,ntmps187;go_wp2;go_ret;exact zq b
 ·rw[fK c];have d:¬ (a.size:Int) > 500:=O9;go_enter func187,ntmps187;go_wp2;go_ret;exact vz b 18 0 a
def Gu {k:Nat->Prop}(a:Tr)(i:Nat)(e:Pe)(h:Qa k e a i):Pq 186 #[O5 i] e λq j=>q=PK (Pv (k8 a))/\j=e:=by
 obtain⟨v,u,c,_⟩:=Qa.Uf h;obtain⟨m,n,o,_⟩:=fZ c;have s:=fI c;have p:Hid (k8 a=if a.kd=17 then a.n != 0 else if a.kd=18 then !decide (a.tx=O8) else decide (a.kd=19)):=rfl;rw[p.out]
 generalize a.kd=g at m ⊢
 generalize a.n=t at o ⊢
 generalize a.tx=r at n ⊢
 clear h c
 by_cases d:g=17
 ·subst d;rw[fL rfl];exact sr
 by_cases f:g=18
 ·subst f;rw[fK d,fL rfl]
  by_cases b:r=O8
  ·have l:=VL (b:=[]) rfl b;rw[g4 b];clear b;exact sr
  ·have l:=Vt (b:=[]) rfl b;rw[gN b];clear b;exact sr
 rw[fK d,fK f];exact sr
def Bp (a:Tr)(q:Nat)(c:Pe)(h:TV c a q)(B:TW 0 a)(g:RY a=true)(C:VQ c)(j:Wj c):Pq 189 #[O5 q] c λm A=>m=PK (Pj (lK a))/\Pn c A:=by
 obtain⟨M,L,l,_⟩:=Qa.Uf h;obtain⟨u,n,p,_⟩:=fZ l;have H:=fI l;have o:=Wi a q c h C;clear h l
 rcases Yj B g with ⟨b,t,rfl⟩|⟨i,_,rfl⟩|k
 ·have v:=Tryz.strconv_Itoa b (by have:=t.1;omega) (by have:=t.2;omega) _ j
  have e:lK (.mk 17 O8 b [])=⟨(Lib.itoa b).toArray⟩:=rfl;rw[e];have f:(Tr.mk 17 O8 b []).kd=17:=rfl;have s:(Tr.mk 17 O8 b []).n=b:=rfl;rw[f] at u;rw[s] at p;obtain⟨F,w⟩:=xE (⟨(Lib.itoa b).toArray⟩:Py);rw[<-w] at v ⊢;clear g j e w f s n;go_enter func189,ntmps189;go_wp2_with fail;refine cm v ?_;rintro m R ⟨rfl,D,E,z⟩;have r:Pn c R:=by rw[z];exact Lib.below_grow _ _ Qp D E
  clear z;go_wp2;go_ret;exact⟨rfl,r⟩
 ·have f:(Tr.mk 18 i 0 []).kd=18:=rfl;have d:(Tr.mk 18 i 0 []).tx=i:=rfl;rw[f] at u;rw[d] at n;have e:lK (.mk 18 i 0 [])=i:=rfl;rw[e];clear g j e f d p;go_enter func189,ntmps189;go_wp2;go_ret;exact⟨rfl,RP⟩
 ·have d:lK a=(kO a.kd).2.1:=by rcases k with rfl|rfl|rfl|rfl <;> rfl
  have D:¬ a.kd=17:=by rcases k with rfl|rfl|rfl|rfl <;> simp[Tr.kd]
  have E:¬ a.kd=18:=by rcases k with rfl|rfl|rfl|rfl <;> simp[Tr.kd]
  rw[d,g] at *;obtain⟨x,s⟩:=xE (kO a.kd);rw[<-s] at o ⊢;obtain⟨z,v,w⟩:=x
  generalize a.kd=I at *
  clear g j d k s n p;go_enter func189,ntmps189;exact L4
def Wf {a:Tr}(b:RY a=true):(kO a.kd).2.2=tT a/\(kO a.kd).1=a.kd:=by
 have b:=kc b;have h:a.kd=17\/a.kd=18\/a.kd=19\/a.kd=20\/a.kd=21\/a.kd=22:=O9;unfold tT
 rcases h with h|h|h|h|h|h <;> rw[h] <;> exact⟨rfl,rfl⟩
def Y3 {b:Option Tr}{f g c:Pe}{e:Ending}(a:Pn f g)(h:ii b g e c):ii b f e c:=by
 obtain⟨l,d⟩:=h;refine⟨a.trans (l.mono a.size),?_⟩
 cases b with
 | none=>exact d
 | some o=>
  obtain⟨m,k,j⟩:=d;exact⟨m,k,Qa.mono (λn i _=>f9 a.size i) _ _ j⟩
def Y4 {a:Option Tr}{f g:Pe}{c:Ending}(h:ii a f c g):∃ e,c=PK e/\ii a f (PK e) g:=by
 obtain⟨d,b⟩:=h
 cases a with
 | none=>exact⟨_,b,d,rfl⟩
 | some l=>
  obtain⟨k,j,i⟩:=b;exact⟨_,j,d,k,rfl,i⟩
def Yl (f:Int)(a:Tr)(e:Nat)(d:Pe)(h:TV d a e)(p:VQ d):Pq 99 #[O3 f,O5 e] d (ii (ny f a) d):=by
 have o:=Wi a e d h p;unfold ny
 cases c:RY a with
 | false=>
  rw[c] at o;rw[fK P7];obtain⟨x,b⟩:=xE (kO a.kd);rw[<-b] at o;obtain⟨O,I,M⟩:=x;clear h c b;go_enter func99,ntmps99;go_wp2_with fail;refine cm o ?_;rintro m R ⟨rfl,F⟩;have r:=F;go_wp2;go_ret;exact⟨r.alloc r.size _,rfl⟩
 | true=>
  rw[c] at o;rw[fL rfl,<-(Wf c).1];obtain⟨x,b⟩:=xE (kO a.kd);rw[<-b] at o ⊢;obtain⟨O,I,M⟩:=x;have k:=Y (λj (n:Pn d j)=>Gu a e j (Qa.fH (Below.gx n) _ _ h))
  by_cases l:f=32
  ·subst l;rw[fL rfl];obtain⟨n,j⟩:=xE (k8 a);rw[<-j] at k ⊢;clear h c b j;go_enter func99,ntmps99;have i{G}(h:G:=by
   refine cm (O4 k _ r) ?_;rintro m s ⟨rfl,rfl⟩;go_wp2_with fail;refine cm (VR _ _) ?_;exact Dl):=O6 h;exact uu
  ·rw[fK l];clear h c b;go_enter func99,ntmps99;have i{G}(h:G:=by
   refine cm (zk _ _) ?_;exact Dl):=O6 h;exact uu
def Ym (f:Int)(a:Tr)(d q:Nat)(b:Pe)(h:TV b a d)(v:VQ b):Pq 100 #[O3 f,O5 d,O5 q] b λm t=>m=PK (if RY a then (if k8 a=decide (f=25) then O5 d else O5 q) else Ry)/\Pn b t:=by
 have o:=Wi a d b h v
 cases e:RY a with
 | false=>
  rw[e] at o;rw[fK P7];obtain⟨x,c⟩:=xE (kO a.kd);rw[<-c] at o;obtain⟨O,I,M⟩:=x;clear h e c;go_enter func100,ntmps100;exact L4
 | true=>
  rw[e] at o;rw[fL rfl];obtain⟨x,c⟩:=xE (kO a.kd);rw[<-c] at o;obtain⟨O,I,M⟩:=x;have n:=Y (λk (u:Pn b k)=>Gu a d k (Qa.fH (Below.gx u) _ _ h));obtain⟨s,p⟩:=xE (k8 a);rw[<-p] at n ⊢;clear h e c p;obtain⟨g,j⟩:=xE (decide (f=25));rw[<-j];have A:(f==25)=g:=by rw[j];exact kl.2 P7
  clear j;have w:∀ (l:Bool) (B:Px),s=l->g=l->True:=λ_ _ _ _=>trivial;clear w;go_enter func100,ntmps100;have i{G}(h:G:=by
  refine cm (O4 n _ r) ?_;rintro m k ⟨rfl,rfl⟩
  cases s <;> cases g
  all_goals
   go_wp2;go_ret;exact⟨rfl,r⟩):=O6 h;exact uu
def Ra (d u a:Int)(n:Nb u)(m:Nb a)(c:Pe):Pq 188 #[O3 d,O3 u,O3 a] c (ii (pG d u a) c):=by
 obtain⟨z,t⟩:=n;obtain⟨w,v⟩:=m;unfold pG
 by_cases k:d=28
 ·subst k;rw[fL rfl];have p:=Y (λo=>VR o c)
  by_cases i:u<a
  all_goals
   first|rw[g4 i] | rw[gN i]
   go_enter func188,ntmps188;go_wp2_with fail;refine cm (O4 p _) ?_;intro r q b;obtain⟨s,rfl,b⟩:=Y4 b;have g:=Y b;go_wp2;go_ret;exact O4 g
 rw[fK k]
 by_cases j:d=29
 ·subst j;rw[fL rfl];have f:=w9 (u+a) c;go_enter func188,ntmps188;go_wp2_with fail;exact zE
 rw[fK j]
 by_cases l:d=30
 ·subst l;rw[fL rfl];have f:=w9 (u - a) c;go_enter func188,ntmps188;go_wp2_with fail;exact zE
 rw[fK l];have e{G}(h:G:=by
 have f:=w9 (u * a) c;go_enter func188,ntmps188;go_wp2_with fail
 try rw[ak]
 exact zE):=O6 h;exact E3
section
variable {u N:Tr} {c g:Nat} {w:Pe} {H:Int}
variable (E:TV w u c) (D:TV w N g) (A:VQ w)
include E D A
def avj (d:RY u=false)(f:RY N=true):Pq 101 #[O3 H,O5 c,O5 g] w λm a=>m=PK Ry/\Pn w a:=xX
def avk (d:RY u=true)(f:RY N=false):Pq 101 #[O3 H,O5 c,O5 g] w λm a=>m=PK Ry/\Pn w a:=xX
def avl (d:RY u=false)(f:RY N=false):Pq 101 #[O3 H,O5 c,O5 g] w λm a=>m=PK Ry/\Pn w a:=xX
section
variable (d:RY u=true) (f:RY N=true)
include d f
def avm (ad:u.kd≠N.kd):Pq 101 #[O3 27,O5 c,O5 g] w (ii (some (ZI false)) w):=by
 have b{G}(h:G:=by
 clear d f;have aN:(u.kd==N.kd)=false:=by simpa using ad
 clear ad;have b{G}(h:G:=by
 have b{G}(h:G:=by
 have b{G}(h:G:=by
 have z{G}(h:G:=by
 refine uh 8 (.bool false) (a) ?_;refine uh 9 (.bool false) (a) ?_;refine uh 10 undef (a) ?_ (bi:=fU ⟨by kernel_rfl,rfl⟩);refine FE ?_;refine uh 17 undef (a) ?_ (bi:=fU ⟨by kernel_rfl,rfl⟩);refine uh 18 undef (a) ?_ (bi:=fU ⟨by kernel_rfl,rfl⟩);exact Fm):=O6 h;exact Ca):=O6 h;exact sH):=O6 h;exact rL):=O6 h;exact nC):=O6 h;exact kJ
def NF (ad:u.kd=N.kd)(ak:u.n≠N.n):Pq 101 #[O3 27,O5 c,O5 g] w (ii (some (ZI false)) w):=by
 have b{G}(h:G:=by
 clear d f;have aN:(u.kd==N.kd)=true:=by simpa using ad
 clear ad;have aQ:(u.n==N.n)=false:=by simpa using ak
 clear ak;have b{G}(h:G:=by
 have b{G}(h:G:=by
 have b{G}(h:G:=by
 refine uh 18 (.bool false) (a) ?_;exact Fm):=O6 h;exact xv):=O6 h;exact rL):=O6 h;exact nC):=O6 h;exact kJ
def avq (ad:u.kd=N.kd)(ak:u.n=N.n)(i:u.tx≠N.tx):Pq 101 #[O3 27,O5 c,O5 g] w (ii (some (ZI false)) w):=by
 have b{G}(h:G:=by
 clear d f;have aN:(u.kd==N.kd)=true:=by simpa using ad
 clear ad;have aQ:(u.n==N.n)=true:=by simpa using ak
 clear ak;have aS:=pt i;clear i;have b{G}(h:G:=by
 have b{G}(h:G:=by
 have b{G}(h:G:=by
 have b{G}(h:G:=by
 refine uh 29 (.bool false) (a) ?_;refine uh 30 (.bool false) (a) ?_;refine Rl 31 λK p=>?_;go_simp;refine cm (VR false _) ?_;exact AH):=O6 h;exact Gf):=O6 h;exact xv):=O6 h;exact rL):=O6 h;exact nC):=O6 h;exact kJ
def avr (ad:u.kd=N.kd)(ak:u.n=N.n)(i:u.tx=N.tx):Pq 101 #[O3 27,O5 c,O5 g] w (ii (some (ZI true)) w):=by
 have b{G}(h:G:=by
 clear d f;have aN:(u.kd==N.kd)=true:=by simpa using ad
 clear ad;have aQ:(u.n==N.n)=true:=by simpa using ak
 clear ak;have aS:=wN i;clear i;have b{G}(h:G:=by
 have b{G}(h:G:=by
 have b{G}(h:G:=by
 have b{G}(h:G:=by
 refine uh 29 (.bool true) (a) ?_;refine uh 30 (.bool true) (a) ?_;refine Rl 31 λK p=>?_;go_simp;refine cm (VR true _) ?_;exact AH):=O6 h;exact Gf):=O6 h;exact xv):=O6 h;exact rL):=O6 h;exact nC):=O6 h;exact kJ
end
end
section
variable {u N:Tr} {c g:Nat} {w:Pe} {a:Int}
variable (E:TV w u c) (D:TV w N g) (A:VQ w)
include E D A
section
variable (d:RY u=true) (f:RY N=true)
include d f
def aqF (i:u.kd≠17)(e:a≠27)(p:a≠28)(n:a≠29):Pq 101 #[O3 a,O5 c,O5 g] w (ii none w):=by
 have b{G}(h:G:=by
 clear d f;exact sE):=O6 h;exact kJ
def aqG (p:u.kd≠17)(i:u.kd≠18)(e:N.kd≠18):Pq 101 #[O3 29,O5 c,O5 g] w (ii none w):=by
 have b{G}(h:G:=by
 clear d f;have n:(u.kd==18)=false:=jx.2 λx=>i (iH x);clear i;exact zX):=O6 h;exact kJ
def Xs (n:u.kd≠17)(e:u.kd≠18):Pq 101 #[O3 28,O5 c,O5 g] w (ii none w):=by
 have b{G}(h:G:=by
 clear d f;have i:(u.kd==18)=false:=jx.2 λx=>e (iH x);clear e;exact sE):=O6 h;exact kJ
def MO (i:u.kd=18)(e:N.kd≠18):Pq 101 #[O3 28,O5 c,O5 g] w (ii none w):=by
 have b{G}(h:G:=by
 clear d f;rw[i] at s;clear i;exact zX):=O6 h;exact kJ
def aqJ (e:u.kd=17)(i:N.kd≠17)(n:a≠27)(q:a≠28)(p:a≠29):Pq 101 #[O3 a,O5 c,O5 g] w (ii none w):=Jy
def aqK (i:u.kd=17)(n:N.kd≠17)(e:N.kd≠18):Pq 101 #[O3 29,O5 c,O5 g] w (ii none w):=by
 have b{G}(h:G:=by
 clear d f;rw[i] at s;clear i;exact zX):=O6 h;exact kJ
def Qf (e:u.kd=17)(i:N.kd≠17):Pq 101 #[O3 28,O5 c,O5 g] w (ii none w):=Jy
end
end
section
variable {u N:Tr} {c g:Nat} {w:Pe} {q:Int}
variable (E:TV w u c) (D:TV w N g) (A:VQ w)
include E D A
section
variable (d:RY u=true) (f:RY N=true)
include d f
def azr (bf:q≠27)(ad:u.kd=17)(ak:N.kd=17)(aN:Nb u.n)(aS:Nb N.n):Pq 101 #[O3 q,O5 c,O5 g] w (ii (pG q u.n N.n) w):=by
 have b{G}(h:G:=by
 clear d f;have aQ:=Y (λL=>Ra q u.n N.n aN aS L);rw[ad] at s;rw[ak] at B;clear ad ak;have b{G}(h:G:=by
 have b{G}(h:G:=by
 have b{G}(h:G:=by
 refine Qq 9 (λL=>Below k.heap.size k L) Qs ?_;refine uh 0 (O3 q) (a) ?_;refine uh 1 (.pointer (some ⟨c,0,none⟩)) (a) ?_;refine uh 2 (.pointer (some ⟨c,0,none⟩)) (a) ?_;refine uh 3 (.pointer (some ⟨c,2,none⟩)) (a) ?_;refine uc 4 (O3 ax) rfl (fM ⟨by kernel_rfl,λL H=>by have aO:=PN H (aF);go_simp⟩) (a) ?_
 refine uh 5 (.pointer (some ⟨g,0,none⟩)) (a) ?_;refine Jq ?_;refine uh 7 (.pointer (some ⟨g,2,none⟩)) (a) ?_;refine uc 8 (O3 aC) rfl (fM ⟨by kernel_rfl,λL H=>by have aO:=PN H (aG);go_simp⟩) (a) ?_
 refine Rl 9 λK p=>?_;go_simp;refine cm (O4 aQ _) ?_;have b{G}(h:G:=by
 refine pI ?_;clear p K;refine uz 10 v ?_;exact qg):=O6 h;exact us):=O6 h;exact sH):=O6 h;exact qf):=O6 h;exact nC):=O6 h;exact kJ
def W8 (ad:u.kd=18)(ak:N.kd=18)(i:u.tx.data.toList<N.tx.data.toList):Pq 101 #[O3 28,O5 c,O5 g] w (ii (some (ZI true)) w):=by
 have b{G}(h:G:=by
 clear d f;have aN:Op.bytesLess u.tx.toList N.tx.toList=true:=by rw[hB,hB,bytesLess_eq];exact g4 i
 rw[ad] at s;rw[ak] at B;clear ad ak i;have b{G}(h:G:=by
 have b{G}(h:G:=by
 have b{G}(h:G:=by
 have b{G}(h:G:=by
 refine uh 8 (.bool true) (a) ?_;refine Rl 9 λK p=>?_;go_simp;refine cm (VR true _) ?_;exact Df):=O6 h;exact Cu):=O6 h;exact sH):=O6 h;exact qf):=O6 h;exact nC):=O6 h;exact kJ
def OU (ad:u.kd=18)(ak:N.kd=18)(i:¬ u.tx.data.toList<N.tx.data.toList):Pq 101 #[O3 28,O5 c,O5 g] w (ii (some (ZI false)) w):=by
 have b{G}(h:G:=by
 clear d f;have aN:Op.bytesLess u.tx.toList N.tx.toList=false:=by rw[hB,hB,bytesLess_eq];exact gN i
 rw[ad] at s;rw[ak] at B;clear ad ak i;have b{G}(h:G:=by
 have b{G}(h:G:=by
 have b{G}(h:G:=by
 have b{G}(h:G:=by
 refine uh 8 (.bool false) (a) ?_;refine Rl 9 λK p=>?_;go_simp;refine cm (VR false _) ?_;exact Df):=O6 h;exact Cu):=O6 h;exact sH):=O6 h;exact qf):=O6 h;exact nC):=O6 h;exact kJ
end
omit E D A in
theorem AF {b:Tr}(h:TW 0 b)(i:RY b=true):(lK b).size<=4000:=by
 rcases Yj h i with ⟨a,d,rfl⟩|⟨e,f,rfl⟩|rfl|rfl|rfl|rfl
 ·show (UN a).size<=4000
  unfold UN
  show ((Lib.itoa a).toArray).size<=4000
  rw[jK];have h:=Lib.itoa_length_le a (by have:=d.1;omega) (by have:=d.2;omega)
  omega
 ·have:e.size<=3000:=f
  show e.size<=4000
  omega
 all_goals
  decide
section
variable (d:RY u=true) (f:RY N=true) (v:TW 0 u) (H:TW 0 N) (e:Wj w)
include d f v H e
def avx (n:u.kd=18):Pq 101 #[O3 29,O5 c,O5 g] w (ii (nj (XI (lK u) (lK N))) w):=by
 have b{G}(h:G:=by
 have b{G}(h:G:=by
 clear d f e;rw[n] at s;have b{G}(h:G:=by
 have b{G}(h:G:=by
 clear aK;have b{G}(h:G:=by
 go_wp2_with fail;rw[<-C.out];refine cm (O4 W _ l) ?_;rintro m ay ⟨rfl,P⟩;have p:=l.trans (P.mono l.size);clear P;go_wp2_with fail;refine cm (O4 X _ p) ?_;rintro m aU ⟨rfl,S⟩;have ad:=p.trans (S.mono p.size);clear S;go_wp2_with fail;rw[sJ];refine cm (zk _ _) ?_;intro m aS i;obtain⟨aX,rfl,i⟩:=Y4 i;have ak:=Y (Y3 ad i);clear i;go_wp2;go_ret;exact O4 ak):=O6 h;exact qf):=O6 h;exact nC):=O6 h;exact B1):=O6 h;exact kJ):=O6 h;exact B5
def avy (n:u.kd≠18)(P:N.kd=18):Pq 101 #[O3 29,O5 c,O5 g] w (ii (nj (XI (lK u) (lK N))) w):=by
 have b{G}(h:G:=by
 have b{G}(h:G:=by
 clear d f e;rw[P] at B;clear P;have aS:(u.kd==18)=false:=jx.2 λx=>n (iH x);have b{G}(h:G:=by
 have b{G}(h:G:=by
 have b{G}(h:G:=by
 go_wp2_with fail
 all_goals
  rw[<-C.out];refine cm (O4 W _ l) ?_;rintro m aU ⟨rfl,S⟩;have p:=l.trans (S.mono l.size);go_wp2_with fail;refine cm (O4 X _ p) ?_;rintro m a8 ⟨rfl,ad⟩;have ak:=p.trans (ad.mono p.size);go_wp2_with fail;rw[sJ];refine cm (zk _ _) ?_;intro m aX i;obtain⟨ba,rfl,i⟩:=Y4 i;have ay:=Y (Y3 ak i);go_wp2;go_ret;exact O4 ay):=O6 h;exact qf):=O6 h;exact nC):=O6 h;exact B1):=O6 h;exact kJ):=O6 h;exact B5
end
end
def Xh {f g:Tr}{B C:Nat}{n:Pe}(q:Int)(d:TV n f B)(c:TV n g C)(u:TW 0 f)(v:TW 0 g)(e:VQ n)(z:Wj n):Pq 101 #[O3 q,O5 B,O5 C] n (ii (lZ q f g) n):=by
 unfold lZ
 cases b:RY f with
 | false=>
  rw[fK P7]
  cases a:RY g with
  | false=>exact cm (avl d c e b a) λA w h=>⟨h.2,h.1⟩
  | true=>exact cm (avj d c e b a) λA w h=>⟨h.2,h.1⟩
 | true=>
 cases a:RY g with
 | false=>
  rw[fK P7];exact cm (avk d c e b a) λA w h=>⟨h.2,h.1⟩
 | true=>
 rw[fL P7]
 by_cases p:q=27
 ·subst p;rw[fL rfl]
  by_cases m:f.kd=g.kd
  ·by_cases o:f.n=g.n
   ·by_cases r:f.tx=g.tx
    ·rw[g4 ⟨m,o,r⟩];exact avr d c e b a m o r
    ·rw[gN λx=>r x.2.2];exact avq d c e b a m o r
   ·rw[gN λx=>o x.2.1];exact NF d c e b a m o
  ·rw[gN λx=>m x.1];exact avm d c e b a m
 rw[fK p]
 by_cases l:f.kd=17/\g.kd=17
 ·rw[fL l];have m:∀ {o:Tr},TW 0 o->RY o=true->Nb o.n:=λh r=>by
   rcases Yj h r with ⟨D,m,rfl⟩|⟨E,_,rfl⟩|rfl|rfl|rfl|rfl
   ·exact m
   all_goals exact⟨show (-1000000000:Int)<=0 by decide,show (0:Int)<=1000000000 by decide⟩
  exact azr d c e b a p l.1 l.2 (m u b) (m v a)
 rw[fK l]
 by_cases s:q=29
 ·subst s
  by_cases i:f.kd=18
  ·rw[fL ⟨rfl,fM i⟩];exact avx d c e b a u v z i
  by_cases k:g.kd=18
  ·rw[fL ⟨rfl,fU k⟩];exact avy d c e b a u v z i k
  rw[fK λx=>x.2.elim i k,fK P7]
  by_cases j:f.kd=17
  ·exact aqK d c e b a j (λx=>l ⟨j,x⟩) k
  ·exact aqG d c e b a j i k
 rw[fK λx=>s x.1]
 by_cases t:q=28
 ·subst t
  by_cases i:f.kd=18
  ·by_cases k:g.kd=18
   ·rw[fL ⟨rfl,i,k⟩]
    by_cases m:f.tx.data.toList<g.tx.data.toList
    ·rw[g4 m];exact W8 d c e b a i k m
    ·rw[gN m];exact OU d c e b a i k m
   ·rw[fK λx=>k x.2.2];exact MO d c e b a i k
  ·rw[fK λx=>i x.2.1]
   by_cases j:f.kd=17
   ·exact Qf d c e b a j λx=>l ⟨j,x⟩
   ·exact Xs d c e b a j i
 rw[fK λx=>t x.1]
 by_cases j:f.kd=17
 ·exact aqJ d c e b a j (λx=>l ⟨j,x⟩) p t s
 ·exact aqF d c e b a j p t s
def Y5 (d:Nat)(e:Option Tr)(g:Pe)(b:Ending)(a:Pe):Prop:=Pn g a/\match e with
 | none=>b=PK (.pointer none)
 | some f=>∃ c,b=PK (O5 c)/\Qa (gp d) a f c
def ii.out {B:Nat}{a:Option Tr}{b e:Pe}{d:Ending}(i:B<=b.heap.size)(h:ii a b d e):Y5 B a b d e:=by
 obtain⟨k,c⟩:=h;refine⟨k,?_⟩
 cases a with
 | none=>exact c
 | some n=>
  obtain⟨l,j,g⟩:=c;exact⟨l,j,Qa.mono (λm f _=>f9 i f) _ _ g⟩
def Y5.trans {b:Nat}{e:Option Tr}{f g a:Pe}{d:Ending}(c:Pn f g)(h:Y5 b e g d a):Y5 b e f d a:=⟨c.trans (h.1.mono c.size),h.2⟩
def DV {g:Nat->Prop}{a:Pe}{e i:Tr}{d:Nat}(h:Qa g a e d)(n:e.fJ=[i]):d<a.heap.size/\a.cell? (O7 d 0)=some (O3 e.kd)/\∃ c f b,a.cell? (O7 d 3)=some (.slice (some (O7 c 0)) 1 f)/\a.cell? (O7 c 0)=some (O5 b)/\Qa g a i b:=by
 have u{G}(h:G:=by
 obtain rfl:A=[]:=o;obtain⟨c,f,rfl,k⟩:=TG p P7;exact⟨fI j,r,c,f,b,s,k 0 P7,t⟩):=O6 h;exact GB
def Z1 {f:Nat->Prop}{a:Pe}{g k m:Tr}{d:Nat}(h:Qa f a g d)(n:g.fJ=[k,m]):d<a.heap.size/\a.cell? (O7 d 0)=some (O3 g.kd)/\∃ c i b e,a.cell? (O7 d 3)=some (.slice (some (O7 c 0)) 2 i)/\a.cell? (O7 c 0)=some (O5 b)/\a.cell? (O7 c 1)=some (O5 e)/\Qa f a k b/\Qa f a m e:=by
 have u{G}(h:G:=by
 obtain⟨e,v,rfl,z,w⟩:=PE.parts o;obtain rfl:v=[]:=w;obtain⟨c,i,rfl,l⟩:=TG p P7;exact⟨fI j,r,c,i,b,e,s,l 0 P7,l 1 P7,t,z⟩):=O6 h;exact GB
section
variable {e:Tr} {c g:Nat} {w:Pe}
variable (h:Qa (gp g) w e c) (k:g<=w.heap.size)
include h k
def azs {u:Tr}(l:e.fJ=[u])(o:e.kd=32)(C:VQ w):Pq 46 #[O5 c] w (Y5 g (ny 32 u) w):=by
 obtain⟨D,q,t,z,i,s,A,B⟩:=DV h l;have r:=Y (λL (b:Pn w L)=>Yl 32 u i L (Qa.mono (λ_ _ _=>trivial) _ _ (Qa.fH (Below.gx b) _ _ B)) (C.fH b));rw[o] at q;clear h l o;have d{G}(h:G:=by
 refine Qq 10 (λL=>Below w.heap.size w L) Qs ?_;refine nk ?_;refine uc 3 (O3 32) rfl (fM ⟨by kernel_rfl,λL b=>by have aO:=PN b (q);go_simp⟩) (a) ?_
 exact IQ):=O6 h;exact nN
def US {u:Tr}(l:e.fJ=[u])(o:e.kd=33)(C:VQ w):Pq 46 #[O5 c] w (Y5 g (ny 33 u) w):=by
 obtain⟨D,q,t,z,i,s,A,B⟩:=DV h l;have r:=Y (λL (b:Pn w L)=>Yl 33 u i L (Qa.mono (λ_ _ _=>trivial) _ _ (Qa.fH (Below.gx b) _ _ B)) (C.fH b));rw[o] at q;clear h l o;have d{G}(h:G:=by
 refine Qq 10 (λL=>Below w.heap.size w L) Qs ?_;refine nk ?_;refine uc 3 (O3 33) rfl (fM ⟨by kernel_rfl,λL b=>by have aO:=PN b (q);go_simp⟩) (a) ?_
 exact IQ):=O6 h;exact nN
omit k in
theorem OH {u N:Tr}(l:e.fJ=[u,N])(B:e.kd=25)(H:VQ w):Pq 46 #[O5 c] w (Y5 g (my 25 u N) w):=by
 have d{G}(h:G:=by
 have q:=Y (λL (b:Pn w L)=>Ym 25 u i r L (Qa.mono (λ_ _ _=>trivial) _ _ (Qa.fH (Below.gx b) _ _ o)) (H.fH b));have HP:Hid (∀ z,Pn w z->Y5 g (my 25 u N) w (PK (if RY u then (if k8 u=decide ((25:Int)=25) then O5 i else O5 r) else Ry)) z):=λz dw=>by
  refine⟨dw,?_⟩;unfold my
  cases RY u with
  | false=>rfl
  | true=>
   by_cases m:k8 u=decide ((25:Int)=25)
   ·rw[fL rfl,fL m,fL rfl,fL m];exact⟨i,rfl,Qa.fH (Below.gx dw) _ _ o⟩
   ·rw[fL rfl,fK m,fL rfl,fK m];exact⟨r,rfl,Qa.fH (Below.gx dw) _ _ s⟩
 obtain⟨v,C⟩:=xE (if RY u then (if k8 u=decide ((25:Int)=25) then O5 i else O5 r) else Ry:Px);rw[<-C] at q HP;rw[B] at f;clear h l B C;have d{G}(h:G:=by
 refine pH ?_;refine nk ?_;refine uc 3 (O3 25) rfl (fM ⟨by kernel_rfl,λL b=>by have aO:=PN b (f);go_simp⟩) (a) ?_
 exact JZ):=O6 h;exact nN):=O6 h;exact o8
omit k in
theorem azv {u N:Tr}(l:e.fJ=[u,N])(B:e.kd=26)(H:VQ w):Pq 46 #[O5 c] w (Y5 g (my 26 u N) w):=by
 have d{G}(h:G:=by
 have q:=Y (λL (b:Pn w L)=>Ym 26 u i r L (Qa.mono (λ_ _ _=>trivial) _ _ (Qa.fH (Below.gx b) _ _ o)) (H.fH b));have HP:Hid (∀ z,Pn w z->Y5 g (my 26 u N) w (PK (if RY u then (if k8 u=decide ((26:Int)=25) then O5 i else O5 r) else Ry)) z):=λz dw=>by
  refine⟨dw,?_⟩;unfold my
  cases RY u with
  | false=>rfl
  | true=>
   by_cases m:k8 u=decide ((26:Int)=25)
   ·rw[fL rfl,fL m,fL rfl,fL m];exact⟨i,rfl,Qa.fH (Below.gx dw) _ _ o⟩
   ·rw[fL rfl,fK m,fL rfl,fK m];exact⟨r,rfl,Qa.fH (Below.gx dw) _ _ s⟩
 obtain⟨v,C⟩:=xE (if RY u then (if k8 u=decide ((26:Int)=25) then O5 i else O5 r) else Ry:Px);rw[<-C] at q HP;rw[B] at f;clear h l B C;have d{G}(h:G:=by
 refine pH ?_;refine nk ?_;refine uc 3 (O3 26) rfl (fM ⟨by kernel_rfl,λL b=>by have aO:=PN b (f);go_simp⟩) (a) ?_
 exact JZ):=O6 h;exact nN):=O6 h;exact o8
section
variable {u N:Tr} (l:e.fJ=[u,N])
include u N l
def M6 (C:e.kd=27)(ay:TW 0 u)(I:TW 0 N)(H:VQ w)(B:Wj w):Pq 46 #[O5 c] w (Y5 g (lZ 27 u N) w):=by
 have d{G}(h:G:=by
 have q:=Y (λL (b:Pn w L)=>Xh 27 (Qa.mono (λ_ _ _=>trivial) _ _ (Qa.fH (Below.gx b) _ _ o)) (Qa.mono (λ_ _ _=>trivial) _ _ (Qa.fH (Below.gx b) _ _ s)) ay I (H.fH b) (Lib.tabBelow_of_tabIs B L b));rw[C] at f;clear h l C B;have d{G}(h:G:=by
 refine pH ?_;refine nk ?_;refine uc 3 (O3 27) rfl (fM ⟨by kernel_rfl,λL b=>by have aO:=PN b (f);go_simp⟩) (a) ?_
 exact rh):=O6 h;exact nN):=O6 h;exact o8
def azx (C:e.kd=28)(ay:TW 0 u)(I:TW 0 N)(H:VQ w)(B:Wj w):Pq 46 #[O5 c] w (Y5 g (lZ 28 u N) w):=by
 have d{G}(h:G:=by
 have q:=Y (λL (b:Pn w L)=>Xh 28 (Qa.mono (λ_ _ _=>trivial) _ _ (Qa.fH (Below.gx b) _ _ o)) (Qa.mono (λ_ _ _=>trivial) _ _ (Qa.fH (Below.gx b) _ _ s)) ay I (H.fH b) (Lib.tabBelow_of_tabIs B L b));rw[C] at f;clear h l C B;have d{G}(h:G:=by
 refine pH ?_;refine nk ?_;refine uc 3 (O3 28) rfl (fM ⟨by kernel_rfl,λL b=>by have aO:=PN b (f);go_simp⟩) (a) ?_
 exact rh):=O6 h;exact nN):=O6 h;exact o8
def azy (C:e.kd=29)(ay:TW 0 u)(I:TW 0 N)(H:VQ w)(B:Wj w):Pq 46 #[O5 c] w (Y5 g (lZ 29 u N) w):=by
 have d{G}(h:G:=by
 have q:=Y (λL (b:Pn w L)=>Xh 29 (Qa.mono (λ_ _ _=>trivial) _ _ (Qa.fH (Below.gx b) _ _ o)) (Qa.mono (λ_ _ _=>trivial) _ _ (Qa.fH (Below.gx b) _ _ s)) ay I (H.fH b) (Lib.tabBelow_of_tabIs B L b));rw[C] at f;clear h l C B;have d{G}(h:G:=by
 refine pH ?_;refine nk ?_;refine uc 3 (O3 29) rfl (fM ⟨by kernel_rfl,λL b=>by have aO:=PN b (f);go_simp⟩) (a) ?_
 exact rh):=O6 h;exact nN):=O6 h;exact o8
def azz (C:e.kd=30)(ay:TW 0 u)(I:TW 0 N)(H:VQ w)(B:Wj w):Pq 46 #[O5 c] w (Y5 g (lZ 30 u N) w):=by
 have d{G}(h:G:=by
 have q:=Y (λL (b:Pn w L)=>Xh 30 (Qa.mono (λ_ _ _=>trivial) _ _ (Qa.fH (Below.gx b) _ _ o)) (Qa.mono (λ_ _ _=>trivial) _ _ (Qa.fH (Below.gx b) _ _ s)) ay I (H.fH b) (Lib.tabBelow_of_tabIs B L b));rw[C] at f;clear h l C B;have d{G}(h:G:=by
 refine pH ?_;refine nk ?_;refine uc 3 (O3 30) rfl (fM ⟨by kernel_rfl,λL b=>by have aO:=PN b (f);go_simp⟩) (a) ?_
 exact rh):=O6 h;exact nN):=O6 h;exact o8
def azA (C:e.kd=31)(ay:TW 0 u)(I:TW 0 N)(H:VQ w)(B:Wj w):Pq 46 #[O5 c] w (Y5 g (lZ 31 u N) w):=by
 have d{G}(h:G:=by
 have q:=Y (λL (b:Pn w L)=>Xh 31 (Qa.mono (λ_ _ _=>trivial) _ _ (Qa.fH (Below.gx b) _ _ o)) (Qa.mono (λ_ _ _=>trivial) _ _ (Qa.fH (Below.gx b) _ _ s)) ay I (H.fH b) (Lib.tabBelow_of_tabIs B L b));rw[C] at f;clear h l C B;have d{G}(h:G:=by
 refine pH ?_;refine nk ?_;refine uc 3 (O3 31) rfl (fM ⟨by kernel_rfl,λL b=>by have aO:=PN b (f);go_simp⟩) (a) ?_
 exact rh):=O6 h;exact nN):=O6 h;exact o8
end
omit k in
theorem azB (b:¬ (25<=e.kd/\e.kd<=33)):Pq 46 #[O5 c] w (Y5 g none w):=by
 obtain⟨t,q,a,_⟩:=Qa.Uf h;obtain⟨d,_⟩:=fZ a;have f:=fI a;have o:¬ e.kd=25:=O9;have r:¬ e.kd=26:=O9;have i:¬ e.kd=27:=O9;have l:¬ e.kd=28:=O9;have j:¬ e.kd=29:=O9;have n:¬ e.kd=30:=O9;have u:¬ e.kd=31:=O9;have p:¬ e.kd=32:=O9;have s:¬ e.kd=33:=O9;clear h b a
 generalize e.kd=m at *
 go_enter func46,ntmps46;go_wp2;go_ret;exact⟨RP,rfl⟩
def V2 (r:lY e->TW 0 e)(d:VQ w)(j:Wj w):Pq 46 #[O5 c] w (Y5 g (hY e) w):=by
 by_cases m:lY e
 ·have t:=r m;obtain⟨q,s⟩:=m;have v:(∃ i,e.fJ=[i]/\(e.kd=32\/e.kd=33\/e.kd=34))\/∃ i n,e.fJ=[i,n]/\TW 0 i/\TW 0 n/\(25<=e.kd/\e.kd<=31):=by
   cases t with
   | one a _=>exact .inl ⟨_,rfl,a⟩
   | two a p o=>exact .inr ⟨_,_,rfl,p,o,a⟩
   | lit a=>simp only[Tr.kd] at q;omega
   | _=>simp[Tr.kd] at q s
  unfold hY
  rcases v with ⟨i,a,f⟩|⟨i,n,a,l,s2,f⟩
  ·rw[a];simp only;rw[fL O9]
   rcases f with f|f|f
   ·rw[f];exact azs h k a f d
   ·rw[f];exact US h k a f d
   ·omega
  ·rw[a];simp only
   by_cases o:e.kd=25
   ·rw[fL (fM o),o];exact OH h a o d
   by_cases p:e.kd=26
   ·rw[fL (fU p),p];exact azv h a p d
   rw[fK O9,fL O9];have u:e.kd=27\/e.kd=28\/e.kd=29\/e.kd=30\/e.kd=31:=O9
   rcases u with b|b|b|b|b
   ·rw[b];exact M6 h k a b l s2 d j
   ·rw[b];exact azx h k a b l s2 d j
   ·rw[b];exact azy h k a b l s2 d j
   ·rw[b];exact azz h k a b l s2 d j
   ·rw[b];exact azA h k a b l s2 d j
 ·have b:hY e=none:=by
   cases a:hY e with
   | none=>rfl
   | some f=>exact absurd (ut a).1 m
  rw[b];exact azB h m
omit h k in
theorem Sh {n:Nat->Prop}(a:Tr)(c:Nat)(w:Pe)(h:Qa n w a c):Pq 47 #[O5 c] w λs m=>s=PK (Pv (nQ a))/\m=w:=by
 obtain⟨z,v,d,_⟩:=Qa.Uf h;obtain⟨p,q,_,_⟩:=fZ d;have u:=fI d;have r:Hid (nQ a=if a.kd=18 then !decide (a.tx=nn) else !(decide (a.kd=23)||decide (a.kd=36))):=rfl;rw[r.out]
 generalize a.kd=f at p ⊢
 generalize a.tx=t at q ⊢
 clear h d
 by_cases i:f=18
 ·subst i;rw[fL rfl]
  by_cases b:t=nn
  ·have o:=VL (b:=[117,115,101,32,115,116,114,105,99,116]) rfl b;rw[g4 b];clear b;exact qW
  ·have o:=Vt (b:=[117,115,101,32,115,116,114,105,99,116]) rfl b;rw[gN b];clear b;exact qW
 rw[fK i]
 by_cases j:f=23
 ·subst j;exact qW
 by_cases l:f=36
 ·subst l;exact qW
 rw[gN j,gN l];exact qW
end
def wF:∀ (r:Nat) {e:Nat} (a:Tr),a.count<=r->a.count<=20000->TW e a->∀ (E:Nat) (w:Pe),TV w a E->VQ w->Wj w ->
  Pq 25 #[O5 E] w λm aI=>(∃ g,m=PK (O5 g)/\Qa (gp w.heap.size) aI (PG a) g)/\Pn w aI:=by
 intro r
 induction r with
 | zero=>intro e a aQ;have:=Zr a;omega
 | succ r aV=>
  intro e a aQ aS ay E w bj bv be;obtain⟨bR,bC,bD,bu,bB⟩:=gY hV;obtain⟨a1,aW,aX,ch,aZ,X⟩:=bj.cells;have aY:=Qa.c2 bj;obtain⟨ua,uc,rfl⟩:=X.form;have bq:=Y X;have bF:a.count=1+Tr.f1 a.fJ:=by cases a with|mk q z bz d=>exact fW _ _ _ _
  have aD:Hid (∀ j (k:j<a.fJ.length),a.fJ[j].count<=r/\a.fJ[j].count<=20000/\∃ ai,TW ai a.fJ[j]):=λj k=>by
   have:=TF a.fJ j k;exact⟨by omega,by omega,Yn ay _ (gT k)⟩
  have b4:a.fJ.length<=20000:=by have:=Tq a.fJ;omega
  have bG:=Y (λ(a:Tr) (ad:a.count<=r) (ak:a.count<=20000) (b:∃ ai,TW ai a)=>aV a ad ak b.choose_spec);have au:Hid (PG a=ld (.mk a.kd a.tx a.n (a.fJ.map PG))):=fold_eq a;have aF:Hid (lY a->TW 0 (.mk a.kd a.tx a.n (a.fJ.map PG))):=λX=>by
   have aO:=rM ay X
   cases aO with
   | one k h=>exact .one k (Tz h)
   | two k ad ak=>exact .two k (Tz ad) (Tz ak)
   | lit k=>have:=X.1;simp only[Tr.kd] at this;omega
   | _=>have ad:=X.1;have ak:=X.2;simp[Tr.kd] at ad ak
  have bm:=Y (λL (t:Pn w L)=>bv.fH t);have aK:=Y (λL (t:Pn w L)=>(Lib.tabBelow_of_tabIs be L t:Wj L));obtain⟨F,bf⟩:=xE (PG a);rw[<-bf] at au ⊢;clear bf;have aN:lY a↔(25<=a.kd/\a.kd<=33):=Iff.rfl;rw[aN] at aF;clear aV bF aQ aS ay be aN
  generalize a.kd=q at *
  generalize a.tx=z at *
  generalize a.n=bz at *
  generalize a.fJ=d at *
  have bE:=Y (NK w q bz z);go_enter func25,ntmps25;go_wp2_with fail
  go_region
  go_wp2_with fail
  go_loopw [28] (λn wr=>∃ (j:Nat) (T:Px) (D:List Nat),j<=d.length/\n=O3 j/\Open w.heap.size wr (.mk q z bz ((d.take j).map PG)) w.heap.size T D/\Pn w wr) (λn _=>d.length - (intOf n).toNat)
  case atStart=>
   refine⟨0,Q8,[],f3 _,rfl,?_,?_⟩
   ·exact bE.out.drew
   ·exact QJ.drew
  case round=>
   obtain⟨j,T,D,k,rfl,bA,O⟩:=hrel;have a7:=Y bA;have i:=Y O;have o:=O.size;obtain⟨U,aC,rfl⟩:∃ u e,T=.slice u j e:=by
    obtain⟨u,e,m⟩:=bA.shape;refine⟨u,e,m.trans ?_⟩;have:(Tr.mk q z bz ((d.take j).map PG)).fJ.length=j:=by show ((d.take j).map PG).length=j;rw[gu,hC];omega
    rw[this]
   have b1:=Y bA.cell
   by_cases s:j<d.length
   ·obtain⟨ap,b7,g,B,bM,bh,bZ⟩:=bq.out.cell j s;have b{G}(h:G:=by
    have aS:wr.cell? (O7 ap j)=some (O5 g):=by rw[i.out.cell (p:=(O7 ap j)) bM];exact bh
    have cf:(j:Int)<(d.length:Int):=O9;have b6:ap<wr.heap.size:=O9;have bx:=Y (λA (W:Pn wr A)=>O4 bG d[j] (O4 aD j s).1 (O4 aD j s).2.1 (O4 aD j s).2.2 g A ((bZ.fH i.out).fH W) (O4 bm A (i.out.trans (W.mono o))) (O4 aK A (i.out.trans (W.mono o))));have bL:Hid ((d.take (j+1)).map PG=(d.take j).map PG++[PG d[j]]):=by show _=_;rw[g3 s,gM];rfl
    clear bh aW aX aY aZ;go_wp2_with fail;have l:Pn wr wr.drew:=(f2 _ _).drew;have M:=Y a7.out.drew;refine Qq 8 (λL=>Pn wr L) Qs ?_;obtain⟨I,am⟩:=xE wr.drew;have bn:I.heap.size=wr.heap.size:=by rw[am];rfl
    rw[<-am] at l M ⊢;have R:=Y bn;clear am bn;refine uh 0 (O5 w.heap.size) l ?_;refine uh 1 (O5 w.heap.size) l ?_;refine uh 2 (O5 w.heap.size) l ?_;refine uh 3 (PL w.heap.size 3) l ?_;refine ug 4 (.slice U j aC) rfl (fM ⟨by kernel_rfl,λL t=>by have aO:=PN t b1.out.1;go_simp⟩) l ?_
    refine uh 5 (O5 g) l ?_;refine Rl 6 λK c=>?_;go_simp;refine cm (O4 bx I l) ?_;rintro m f ⟨⟨ah,rfl,bS⟩,ax⟩;have cg:=ax.size;have H:Hid (Pn wr f):=l.trans (ax.mono (im R.out.symm));have aJ:Ap E I.heap.size I f:=Ap.of ax;have p:=Y (M.out.gx aJ a1);have bW:=Y (M.out.azk (by have:=O4 R;omega) (g9 _) (PE.cons bS PE.nil) (M.out.kb aJ a1))
    have bU:=Y p.out.row;have aG:=Y p.out.cell;have br:w.heap.size<=f.heap.size:=by have:=O4 R;omega
    have bc:D.length=j:=by
     have ak:=PE.length _ _ p.out.fJ;rw[ak]
     show ((d.take j).map PG).length=j
     rw[gu,hC];omega
    refine c.out _ _ (λ_=>H.out) ?_;clear c K;refine Rl 7 λK c=>?_;go_simp;refine c.out _ _ (λ_=>H.out.alloc (by have:=H.out.size;omega) _) ?_
    clear c K;have b2:=Y bc;clear bc;refine Rl 8 λK c=>?_;have bO:f.ownsRow w.heap.size 22 1 (.slice U j aC) j (D.map O5):=by
     have h:=O4 bU;rw[b2.out] at h;exact h
    refine step_append_lies _ rfl _ _ 38 rfl w.heap.size 22 bR Ry 1 8 hH bC bD bu bB rfl Pm _ _ _ rfl (bO.alloc _) (O7 f.heap.size 0) 1 1 [O5 ah] rfl rfl (SK f ah _ rfl) (gZ ah) Pm (by simp[maxLen];omega) O9 RQ (f.heap.size+1) P7 ?_
    intro b9 cap3 C bQ aj a6 _;have bV:=Y (Open.aD8 p.out bW.out (by show j+1=((d.take j).map PG).length+1;rw[gu,hC];omega) bQ aj a6)
    have bT:∀ v,Hid (Below w.heap.size f (C.setCell (O7 w.heap.size 3) v)):=λv=>p.out.qA ((f2 _ f).alloc br _) RQ aj;have ac:C.heap[w.heap.size]? = f.heap[w.heap.size]?:=(aj.block w.heap.size RQ (λm=>p.out.own m.symm)).trans (gd f _ w.heap.size aG.out.2.2);have bI:C.cell? (O7 w.heap.size 3)=some (.slice U j aC):=(gs (w:=f) ac).trans aG.out.1;have bK:C.frozen? (O7 w.heap.size 3)=false:=(g6 (w:=f) ac).trans (aG.out.2.1 3)
    refine c.out _ _ (λh=>by cases h) ?_;clear c K a6 ac;refine uz 9 (O5 w.heap.size) ?_;refine uz 10 (PL w.heap.size 3) ?_;refine Rl 11 λK c=>?_;go_simp;refine c.out _ _ (λh=>by cases h) ?_;clear c K bI bK;refine ul Qs ?_ _;go_simp;go_wp2
    go_roundw
    case rel=>
     obtain⟨bY,u1,W,A,b0⟩:=bV.out.opens;obtain rfl:w.heap.size=bY:=by simpa[O5] using A
     refine⟨j+1,u1,W,by omega,by go_num,?_,i.out.trans ((H.out.mono o).trans (O4 (bT _)))⟩;rw[bL.out];exact b0
    case measure=>simp[intOf];omega):=O6 h;exact UM
   ·have ap:j=d.length:=O9;subst ap;obtain⟨g,R,l⟩:=a7.out.ev.nv;obtain rfl:g=w.heap.size:=by simpa[O5] using R.symm
    clear R;rw[gO] at l;obtain⟨b,I⟩:=xE (Tr.mk q z bz (d.map PG));rw[<-I] at l aF au;have ah:b.kd=q:=by rw[I];rfl
    have M:=V2 (e:=b) l o (λX=>O4 aF (by rw[<-ah];exact X)) (O4 bm wr i.out) (O4 aK wr i.out)
    have W:=Y l;have ax:=Y (λL v g (B:Qa (gp w.heap.size) L v g)=>Sh v g L B);have A:Hid (F=match hY b with
     | some v=>if nQ v then v else b
     | none=>b):=au.out.trans rfl
    clear I ah aW aX aY aZ
    generalize hY b=aL at M A
    cases aL with
    | none=>
     go_wp2_with fail;refine cm M ?_;rintro m aj ⟨H,rfl⟩;have f:=Y H;go_wp2;go_ret;rw[show F=b from A.out];exact⟨⟨_,rfl,Qa.fH (λN _ ba=>f.out.block N ba) _ _ W.out⟩,i.out.trans (f.out.mono o)⟩
    | some v=>
     go_wp2_with fail;refine cm M ?_;rintro m aj ⟨H,am,rfl,ac⟩;have f:=Y H;have aG:=Y ac;have C:=O4 ax aj v am ac
     cases p:nQ v with
     | true=>
      rw[p] at C;go_wp2_with fail;refine cm C ?_;rintro m aJ ⟨rfl,rfl⟩;go_wp2;go_ret;rw[show F=v from A.out.trans (fL p)];exact⟨⟨_,rfl,aG.out⟩,i.out.trans (f.out.mono o)⟩
     | false=>
      rw[p] at C;go_wp2_with fail;refine cm C ?_;rintro m aJ ⟨rfl,rfl⟩;go_wp2;go_ret;rw[show F=b from A.out.trans (fK (by rw[p];simp))]
      exact⟨⟨_,rfl,Qa.fH (λN _ ba=>f.out.block N ba) _ _ W.out⟩,i.out.trans (f.out.mono o)⟩
end Hp
abbrev iV:ByteArray:=⟨#[112,114,105,110,116,40,49,32,43,32,50,32,42,32,51,41,59]⟩
abbrev nF:ByteArray:=⟨#[112,114,105,110,116]⟩
def yW:List Tk:=[⟨1,nF,0,0⟩,⟨5,Rz,0,5⟩,⟨3,O8,1,6⟩,⟨5,⟨#[43]⟩,0,8⟩,⟨3,O8,2,10⟩,⟨5,⟨#[42]⟩,0,12⟩,⟨3,O8,3,14⟩,⟨5,Tt,0,15⟩,⟨5,Q9,0,16⟩,⟨6,O8,0,17⟩]
def qr:Tr:=.mk 1 O8 0 [.mk 15 O8 0 [.mk 35 O8 0 [.mk 23 nF 0 [],.mk 29 O8 0 [.mk 17 O8 1 [],.mk 31 O8 0 [.mk 17 O8 2 [],.mk 17 O8 3 []]]]]]
def EK:Tr:=.mk 1 O8 0 [.mk 15 O8 0 [.mk 35 O8 0 [.mk 23 nF 0 [],.mk 17 O8 7 []]]]
def ava:Hp.PG qr=EK:=by rfl
def avb:Vq RH Ru iV (P9 TU iV 0) []=.ok yW:=by
 have f:P9 TU iV 0=0:=by decide +kernel
 rw[f,Us RH Ru iV 0 [] 1 0 nF 5 Pm Qs Pm];have e:P9 TU iV 5=5:=by decide +kernel
 rw[e,Us RH Ru iV 5 _ 5 0 Rz 6 Pm Qs Pm];have d:P9 TU iV 6=6:=by decide +kernel
 rw[d,Us RH Ru iV 6 _ 3 1 O8 7 Pm Qs Pm];have g:P9 TU iV 7=8:=by decide +kernel
 rw[g,Us RH Ru iV 8 _ 5 0 ⟨#[43]⟩ 9 Pm Qs Pm];have i:P9 TU iV 9=10:=by decide +kernel
 rw[i,Us RH Ru iV 10 _ 3 2 O8 11 Pm Qs Pm];have j:P9 TU iV 11=12:=by decide +kernel
 rw[j,Us RH Ru iV 12 _ 5 0 ⟨#[42]⟩ 13 Pm Qs Pm];have k:P9 TU iV 13=14:=by decide +kernel
 rw[k,Us RH Ru iV 14 _ 3 3 O8 15 Pm Qs Pm];have b:P9 TU iV 15=15:=by decide +kernel
 rw[b,Us RH Ru iV 15 _ 5 0 Tt 16 Pm Qs Pm];have c:P9 TU iV 16=16:=by decide +kernel
 rw[c,Us RH Ru iV 16 _ 5 0 Q9 17 Pm Qs Pm];have a:P9 TU iV 17=17:=by decide +kernel
 rw[a,Zp RH Ru iV 17 _ Pm];rfl
def Iw:TD RH Ru iV=.ok qr:=by
 have b:Wh yW (iN yW KK)=.ok qr 9:=by kernel_rfl
 have a:qr.count=9:=by decide +kernel
 unfold TD;rw[fK Pm,avb];simp only;rw[b];simp only;rw[a,fK Pm]
def BC (a:WS):WS:=Qo [Q9] (Qo [Tt] (Qo [⟨#[55]⟩] (VP Rz (Qo [nF] a))))
def oG (a:Nat):WS:=if a=0 then ([],O8) else Bb (BC ([],O8))
def yF:(oG 1).1=[112,114,105,110,116,40,55,41,59,10]:=by decide +kernel
def I0:UN 7=⟨#[55]⟩:=by unfold UN;rw[show Lib.itoa 7=[55] by decide +kernel]
def avc (a b d:Nat):SC a b d (.mk 15 O8 0 [.mk 35 O8 0 [.mk 23 nF 0 [],.mk 17 O8 7 []]]) (oG 0) (BC (oG 0)):=by
 refine avd _ _ _ _ _ (W1 _ _ _ _ _ _ (by decide +kernel) ?_ ?_ ?_)
 ·simp[lV,n1,vc]
 ·refine Z7 _ _ _ _ _ _ _ _ Pm Pm (Z8 _ _ _ _ _ Pm (by decide +kernel)) (T7 _ _ _ _ _ (aqz _ (λc=>if c=0 then VP Rz (Qo [nF] ([],O8)) else Qo [⟨#[55]⟩] (VP Rz (Qo [nF] ([],O8)))) Pm ?_ ?_) (by decide +kernel) (by decide +kernel))
  ·intro _;have h:=iA (a:=a) (b:=b) (B:=d) O8 7 [] 1 (VP Rz (Qo [nF] ([],O8))) Pm (λe f=>aqA 7 Pm e f.nE.2) (by rw[I0];decide +kernel)
   rw[I0] at h;exact h
  ·intro c e f;simp at e;omega
 ·decide +kernel
def akN (a:Pe)(E:hx RH Ru a)(p:j1 a)(u:kY a)(B:Hp.VQ a):Pq 24 #[] a λc z=>c=PK (Pv true)/\Pn a z:=by
 have k:=LC RH Ru iV a E Hp.Xb p;rw[Iw] at k;have w:=Y k;have q:=Y p;have P:=Y u;have r:=Y (λL e A (m:Pn a L) (g:Qa A L qr e)=>Hp.wF 9 qr (by decide +kernel) (by decide +kernel) (xl Hp.Xb Iw) e L (Qa.mono (λ_ _ _=>trivial) _ _ g) (B.fH m) (Lib.tabBelow_of_tabIs u L m));rw[ava] at r;go_enter Tryz.func24,Tryz.ntmps24;go_wp2_with fail;refine cm w.out ?_;rintro c U ⟨e,rfl,g,i⟩;have o:=Y i;have R:=O4 r U e _ i g;go_wp2_with fail
 refine cm R ?_;rintro c f ⟨⟨t,rfl,D⟩,C⟩;have b:=o.out.trans (C.mono o.out.size);have M:NB f.heap.size f EK t:=Qa.mono (λn _ m=>m) _ _ D;obtain⟨S,I,s⟩:=(q.out.fH b).gJ;obtain⟨T,X,v⟩:=(q.out.fH b).hI;have d:=Y (aqB O8 0 _ oG f.heap.size t f rfl M Pm Pm S I s T X v (P.out.fH b) rfl (λn O N A=>by
  have m:N=0:=by simpa using A
  subst m;exact⟨_,avc _ n O,by decide +kernel,rfl⟩) (by show (oG 1).1.length<=_;rw[yF];decide) (by show (oG 1).1≠_;rw[yF];decide))
 clear s v;go_wp2_with fail;refine YL ?_;rintro c ac ⟨rfl,F⟩;have H:=b.trans (F.mono b.size);have l:(⟨(oG [Tr.mk 15 O8 0 [.mk 35 O8 0 [.mk 23 nF 0 [],.mk 17 O8 7 []]]].length).1.toArray⟩:ByteArray)=⟨#[112,114,105,110,116,40,55,41,59,10]⟩:=by show (⟨(oG 1).1.toArray⟩:ByteArray)=_;rw[yF]
 rw[l];clear l;go_wp2;go_ret;exact⟨rfl,H⟩
