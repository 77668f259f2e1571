import Derived.Test.YticfnaiehdpbmaaGreatDoorFa17
set_option maxRecDepth 100000
set_option maxHeartbeats 0
set_option linter.all false
namespace Go.Proofs.YticfnaiehdpbmaaGreatDoor
open Go.RowKit Go.Proofs.Tryz
namespace Hp
section
open Go.RowKit Go.Extern.Stop Go.Stop Go.Extern
def Bd {b:Pe}{a:Nat}{c k:Px}(d e:Obj)(g:b.cell? (O7 a 0)=some k)(n:a<b.heap.size) :
  (((b.setCell (O7 a 0) c).alloc d).alloc e).cell? (O7 a 0)=some c/\Below a b (((b.setCell (O7 a 0) c).alloc d).alloc e):=by
 have f:Below a b (b.setCell (O7 a 0) c):=RP.setCell (p:=(O7 a 0)) Qp _;have l:=f.size;have i:(b.setCell (O7 a 0) c).cell? (O7 a 0)=some c:=World.cell?_setCell_same _ _ _ g;have j:((b.setCell (O7 a 0) c).alloc d).cell? (O7 a 0)=some c:=by rw[hb _ _ _ O9];exact i
 have m:((b.setCell (O7 a 0) c).alloc d).heap.size=(b.setCell (O7 a 0) c).heap.size+1:=World.size_alloc _ _;refine⟨by rw[hb _ _ _ O9];exact j,(f.alloc O9 _).alloc O9 _⟩
def pK (e:Int)(b c:Nat)(a:Pe)(g:a.cell? (O7 b 0)=some (O3 0))(j:a.frozen? (O7 b 0)=false)(k:a.cell? (O7 c 0)=some (PL b 0))(i:b<a.heap.size)(m:c<a.heap.size) :
  Pq 65 #[.iface 34 (O3 e),.iface 86 (PL b 0),.agg #[PL 13 86,PL c 0,.int .u64 150],.iface 215 (.agg #[PL 13 34])] a λl f=>
   l=PK (Pv true)/\f.cell? (O7 b 0)=some (O3 e)/\Below b a f:=by
 have d{G}(h:G:=by
 have n:=R9.Jo;have o:=R9.acn;have p:=R9.an0;have q:=R9.Sc (O7 c 0) (O7 b 0) (a.alloc (.cells #[PL 13 86,PL c 0,.int .u64 150] 130)) (by rw[hb _ _ _ m];exact k)
 have r:=R9.aDk (O7 b 0) (O7 (a.heap.size+1) 0) e (O3 0) ((a.alloc (.cells #[PL 13 86,PL c 0,.int .u64 150] 130)).alloc (.cells #[O3 e] 34))
  (by rw[ip _ _ _ _ P7];rfl) (by rw[hb _ _ _ RQ,hb _ _ _ i];exact g) (by rw[jw _ _ _ RQ,jw _ _ _ RQ];exact j)
 have d{G}(h:G:=by
 exact⟨rfl,Bd _ _ g i⟩):=O6 h;exact t1):=O6 h;exact uA
def ayX (i:Int)(b:Nat)(a:Pe)(s:a.cell? (O7 b 0)=some (O3 0))(q:a.frozen? (O7 b 0)=false)(k:b<a.heap.size)(n:a.cell? (O7 0 0)=some (.iface 215 (.agg #[PL 13 31]))) :
  Pq 32 #[.iface 34 (O3 i),.iface 86 (PL b 0)] a λp m=>p=PK (Pv true)/\m.cell? (O7 b 0)=some (O3 i)/\Below b a m:=by
 have o{G}(h:G:=by
 have H:=R9.an1;have F:=R9.Ol;have E:=R9.Nt;have I:=R9.ay0;have w:=R9.ay1;have z:=R9.WD;have B:0<a.heap.size:=HK
 obtain⟨c,e⟩:=xE ((a.alloc (.cells #[PL b 0] 86)).alloc (.cells #[PL 13 86,PL a.heap.size 0,.int .u64 150] 130));have M:((a.alloc (.cells #[PL b 0] 86)).alloc (.cells #[PL 13 86,PL a.heap.size 0,.int .u64 150] 130)).cell? (O7 0 0)=some (.iface 215 (.agg #[PL 13 31])):=IF
 have f:c.cell? (O7 a.heap.size 0)=some (PL b 0):=AC
 have r:c.cell? (O7 b 0)=some (O3 0):=by rw[e,hb _ _ _ RQ,hb _ _ _ k];exact s
 have o{G}(h:G:=by
 have v:=R9.auK (O7 a.heap.size 0) (O7 b 0) c f;rw[e] at v;have d:Hid _:=pK i b a.heap.size c r g f O9 O9;rw[e] at d l;clear u g r f e c;exact CZ):=O6 h;exact BH):=O6 h;exact Co
def auL (j:Int)(e f:Nat)(a:Pe)(_:a.cell? (O7 e 0)=some Ry)(_:a.frozen? (O7 e 0)=false)(_:a.cell? (O7 f 0)=some (PL e 0))(_:e<a.heap.size)(_:f<a.heap.size) :
  Pq 65 #[.iface 34 (O3 j),.iface 123 (PL e 0),.agg #[PL 13 123,PL f 0,.int .u64 150],.iface 215 (.agg #[PL 13 122])] a λi g=>
   i=PK (Pv false)/\Pn a g:=by
 have d{G}(h:G:=by
 have k:=R9.Jo;have l:=R9.abl;have m:∀ (c:Px) (b:TypeId) (a:Pe),(Instr.typeAssert (.iface 34 c) b 220 true).run prog a=.ok (.tuple #[QW,Pv false]) a:=λc b a=>run_typeAssert_lacksB underlying220 Qs Qs c b a;have n:∀ (c:Px) (b:TypeId) (a:Pe),(Instr.typeAssert (.iface 34 c) b 223 true).run prog a=.ok (.tuple #[QW,Pv false]) a:=λc b a=>run_typeAssert_lacksB underlying223 Qs Qs c b a
 have o:∀ (c:Px) (b:TypeId) (a:Pe),(Instr.typeAssert (.iface 34 c) b 224 true).run prog a=.ok (.tuple #[QW,Pv false]) a:=λc b a=>run_typeAssert_lacksB underlying224 Qs Qs c b a;have d{G}(h:G:=by
 exact⟨rfl,QJ⟩):=O6 h;exact t1):=O6 h;exact uA
def auM (r:Int)(b:Nat)(a:Pe)(s:a.cell? (O7 b 0)=some Ry)(q:a.frozen? (O7 b 0)=false)(k:b<a.heap.size)(n:a.cell? (O7 0 0)=some (.iface 215 (.agg #[PL 13 31]))) :
  Pq 32 #[.iface 34 (O3 r),.iface 123 (PL b 0)] a λp v=>p=PK (Pv false)/\Pn a v:=by
 have f{G}(h:G:=by
 have f{G}(h:G:=by
 have d:Hid _:=auL r b a.heap.size c m g i O9 O9;exact F9):=O6 h;exact y7):=O6 h;exact vW
def MH (i:Addr)(e f:Nat)(a:Pe)(_:a.cell? (O7 e 0)=some Ry)(_:a.frozen? (O7 e 0)=false)(_:a.cell? (O7 f 0)=some (PL e 0))(_:e<a.heap.size)(_:f<a.heap.size) :
  Pq 65 #[.iface 359 (.pointer (some i)),.iface 123 (PL e 0),.agg #[PL 13 123,PL f 0,.int .u64 150],.iface 215 (.agg #[PL 13 122])] a λj g=>
   j=PK (Pv false)/\Pn a g:=by
 have d{G}(h:G:=by
 have k:=R9.an2;have l:=R9.NP;have m:∀ (c:Px) (b:TypeId) (a:Pe),(Instr.typeAssert (.iface 359 c) b 220 true).run prog a=.ok (.tuple #[QW,Pv false]) a:=λc b a=>run_typeAssert_lacksB underlying220 Qs Qs c b a;have n:∀ (c:Px) (b:TypeId) (a:Pe),(Instr.typeAssert (.iface 359 c) b 223 true).run prog a=.ok (.tuple #[QW,Pv false]) a:=λc b a=>run_typeAssert_lacksB underlying223 Qs Qs c b a
 have o:∀ (c:Px) (b:TypeId) (a:Pe),(Instr.typeAssert (.iface 359 c) b 224 true).run prog a=.ok (.tuple #[QW,Pv false]) a:=λc b a=>run_typeAssert_lacksB underlying224 Qs Qs c b a;have d{G}(h:G:=by
 exact⟨rfl,QJ⟩):=O6 h;exact t1):=O6 h;exact uA
def B0 (r:Addr)(b:Nat)(a:Pe)(s:a.cell? (O7 b 0)=some Ry)(q:a.frozen? (O7 b 0)=false)(k:b<a.heap.size)(n:a.cell? (O7 0 0)=some (.iface 215 (.agg #[PL 13 31]))) :
  Pq 32 #[.iface 359 (.pointer (some r)),.iface 123 (PL b 0)] a λp v=>p=PK (Pv false)/\Pn a v:=by
 have f{G}(h:G:=by
 have f{G}(h:G:=by
 have d:Hid _:=MH r b a.heap.size c m g i O9 O9;exact F9):=O6 h;exact y7):=O6 h;exact vW
def Fb (c:Nat)(a:Pe)(P:TypeId):Pq 32 #[QW,.iface P (PL c 0)] a λd b=>d=PK (Pv false)/\b=a:=by
 go_enter func32,ntmps32;go_wp2;go_ret;exact⟨rfl,rfl⟩
abbrev SY (a:Pe):Prop:=a.cell? (O7 0 0)=some (.iface 215 (.agg #[PL 13 31]))
def ZN {b:Pe}(h:SY b):0<b.heap.size:=by
 rcases hT 0 b.heap.size with a|a
 ·exact a
 ·simp[SY,World.cell?,jB a] at h
def VY {c a:Pe}{b:Nat}(h:SY c)(d:Below b c a)(e:0<b):SY a:=by
 unfold SY;rw[d.cell (p:=(O7 0 0)) e];exact h
def aqd (f:Int)(a:Pe)(m:SY a) :
  Pq 12 #[.iface 34 (O3 f)] a λl o=>l=PK (O3 f)/\Pn a o:=by
 have i:=ZN m;obtain⟨b,c⟩:=xE (a.alloc (.cells #[O3 0] 34));have k:b.cell? (O7 a.heap.size 0)=some (O3 0):=by rw[c,ip _ _ _ _ rfl];rfl
 have g:b.frozen? (O7 a.heap.size 0)=false:=by rw[c];exact World.frozen?_alloc_at _ _ _ _ rfl
 have q:b.heap.size=a.heap.size+1:=by rw[c];simp
 have e:Pn a b:=by rw[c];exact QJ
 have n:SY b:=VY m e i;have d:Hid _:=ayX f a.heap.size b k g O9 n;rw[c] at d e;clear n q g k c b i;go_enter func12,ntmps12;go_wp2_with fail;refine YL ?_;rintro l s ⟨rfl,r,p⟩;go_wp2;go_ret;exact⟨rfl,e.trans p⟩
def aqe (a:Pe):Pq 12 #[QW] a λc b=>c=PK (O3 0)/\Pn a b:=by
 go_enter func12,ntmps12;go_wp2;go_ret;exact⟨rfl,RP⟩
def W9 (b:Int)(a:Pe)(e:SY a):Pq 12 #[U4 b] a λd c=>d=PK (O3 b)/\Pn a c:=by
 by_cases h:b=0
 ·subst h;exact aqe a
 ·rw[w7 h];exact aqd b a e
end
def gX (k:Pe)(c f:Nat)(e:List Nat)(i:Px)(j:Pe)(d:Er × St)(g:Ending)(a:Pe):Prop:=
 (∃ b,g=PK b/\X8 i a b d.1)/\Ms k c f e a d.2/\P8 none c j a
def wX (a:Mo)(c:Int)(b:Py)(d:Va)(fx:Bool):(a.put c b d fx).1=0\/(a.put c b d fx).1=7:=by
 unfold Mo.put
 repeat' split
 all_goals first|exact fM rfl|exact fU rfl
def alr (a:Mo)(c:Int)(b:Py)(d:Va):(a.start c b d).1=0\/(a.start c b d).1=7:=by
 unfold Mo.start
 repeat' split
 all_goals first|exact fM rfl|exact fU rfl
def xC {b:Px}{c:Pe}{a:Int}(h:a=0\/a=7):X8 b c (U4 a) (m4 a):=by
 rcases h with rfl|rfl
 all_goals
  rfl
section
variable {M:Pe} {k I:Nat} {z:List Nat} {am dY dV dZ dX:Px} {w w':Pe} {g:St} {bD:Nat}
def Ms.et (h:Ms M k I z w g)(b:Bs M k I z am)(a:SY M):SY w:=VY a h.below (by rw[<-b.sz];exact ZN a)
def ae3 (q:Ms M k I z w g)(m:Int)(f:Py)(v:Va)  :
  Pq 268 #[O5 k,O3 m,Pj f,vA v,Pv true] w (gX M k I z am w (f0 RZ,g)):=by
 have l{G}(h:G:=by
 have b:=q.fH A;have a:=b.lt;have e:=P8.of (L:=none) A (P6 aC);clear T;go_enter func268,ntmps268;go_wp2_with fail;rw[<-F.out];refine cm (Vz (es:=am) a RZ) ?_;rintro n p ⟨⟨o,rfl,d⟩,c⟩;have j:=b.fH c;have i:=e.trans (P8.of (L:=none) c (P6 a));go_wp2;go_ret;exact⟨⟨_,rfl,d⟩,j,i⟩):=O6 h;exact xR
section
variable (l:Ms M k I z w g) (q:Sz bD g) (r:bD<1000000000) (d:Int) (b:Py) (v:Va)
include l q r d b v
def Sf (bA:g.M.SI d = -1) :
  Pq 268 #[O5 k,O3 d,Pj b,vA v,Pv false] w (gX M k I z am w (m4 (g.M.put 0 b v false).1,g.Rj 0 b v false)):=by
 have p{G}(h:G:=by
 rw[bA] at F;clear D;obtain⟨ac,T⟩:=xE ((g.M.put 0 b v false).1);have A:=Y (wX g.M 0 b v false);have B:=Y (λL (i:Pn C L)=>ZQ (s.fH i) q r 0 b v false);rw[<-T] at A B ⊢;have W:=Y (fX o);have aN:=fI o;clear o T bA;have p{G}(h:G:=by
 refine uh 3 (O3 0) (a) ?_;exact B9):=O6 h;exact BV):=O6 h;exact F3
def Mi (bA:g.M.SI d≠-1) :
  Pq 268 #[O5 k,O3 d,Pj b,vA v,Pv false] w (gX M k I z am w (m4 (g.M.put (g.M.SI d) b v false).1,g.Rj (g.M.SI d) b v false)):=by
 have p{G}(h:G:=by
 rw[<-D] at F bA ⊢;have aQ:¬ aL = -1:=bA;clear D bA;obtain⟨ac,T⟩:=xE ((g.M.put aL b v false).1);have A:=Y (wX g.M aL b v false);have B:=Y (λL (i:Pn C L)=>ZQ (s.fH i) q r aL b v false);rw[<-T] at A B ⊢;have W:=Y (fX o);have aN:=fI o;clear o T;have p{G}(h:G:=by
 refine uh 3 (O3 aL) (a) ?_;exact B9):=O6 h;exact BV):=O6 h;exact F3
def ar9 (c:Bool) :
  Pq 268 #[O5 k,O3 d,Pj b,vA v,Pv c] w (gX M k I z am w (XJ d b v c g)):=by
 unfold XJ
 cases c with
 | true=>exact ae3 l d b v
 | false=>
  by_cases a:g.M.SI d = -1
  ·have h:=Sf (am:=am) l q r d b v a;simp only[iI,iC,fL a];exact h
  ·have h:=Mi (am:=am) l q r d b v a;simp only[iI,iC,fK a];exact h
end
section
variable (p:Bs M k I z am) (o:SY M) (q:Ms M k I z w g) (s:Sz bD g) (B:bD+1<1000000000) (d:Int) (b:Py) (v:Va)
include p o q s B d b v
def Nv (W:Bool)(aD:(g.M.write d b v).1=7) :
  Pq 197 #[O5 k,O3 d,Pj b,vA v,Pv W] w (gX M k I z am w (XJ d b v W { g with M:=(g.M.write d b v).2 })):=by
 have l{G}(h:G:=by
 have aQ:=Y T;have l{G}(h:G:=by
 rw[aD] at ah;clear aD;have l{G}(h:G:=by
 have aW:=Y (ac.fR aQ.out Pm);have aK:=ap.trans ac;have aV:=r.lt;have a1:=W9 7 E (r.et p o);refine Rl 7 λK c=>?_;go_simp;refine cm a1 ?_;rintro m bj ⟨rfl,U⟩;refine ko c ?_;clear c K;have ai:=r.fH U;have aZ:=Y (fQ U aW.out);have aS:=aK.trans (P8.of (L:=none) U (P6 aV));have bn:=ai.lt;refine TQ ?_ _;obtain⟨b2,f,t,_,_⟩:=fX aZ.out;go_simp;go_wp2_with fail;refine cm (ar9 (am:=am) ai bc B d b v W) ?_;rintro m bh ⟨⟨bm,rfl,aG⟩,a6,aY⟩
 have aF:=aS.trans aY;clear b2 f t;go_wp2;go_ret;exact⟨⟨_,rfl,aG⟩,a6,aF⟩):=O6 h;exact Ka):=O6 h;exact B3):=O6 h;exact xR
def aFL (aQ:Bool)(W:(g.M.write d b v).1=6) :
  Pq 197 #[O5 k,O3 d,Pj b,vA v,Pv aQ] w (gX M k I z am w ((f0 RZ,{ g with M:=(g.M.write d b v).2 }))):=by
 have l{G}(h:G:=by
 have f:=W9 6 E (r.et p o);have l{G}(h:G:=by
 refine cm (Vz (es:=am) t RZ) ?_;exact Dr):=O6 h;exact xa):=O6 h;exact ub
def aFN (aQ:Bool)(W:(g.M.write d b v).1=1) :
  Pq 197 #[O5 k,O3 d,Pj b,vA v,Pv aQ] w (gX M k I z am w ((f0 gB,{ g with M:=(g.M.write d b v).2 }))):=by
 have l{G}(h:G:=by
 have f:=W9 1 E (r.et p o);exact BP):=O6 h;exact ub
def aAA (W:(g.M.write d b v).1=5) :
  Pq 197 #[O5 k,O3 d,Pj b,vA v,Pv true] w (gX M k I z am w ((f0 gB,{ g with M:=(g.M.write d b v).2 }))):=by
 have l{G}(h:G:=by
 have f:=W9 5 E (r.et p o);exact BP):=O6 h;exact ub
def Uv (W:(g.M.write d b v).1=5) :
  Pq 197 #[O5 k,O3 d,Pj b,vA v,Pv false] w (gX M k I z am w ((.no,{ g with M:=(g.M.write d b v).2 }))):=by
 have l{G}(h:G:=by
 have f:=W9 5 E (r.et p o);exact LB):=O6 h;exact ub
def asa (aZ:Bool)(aY:¬ (g.M.write d b v).1=7)(aW:¬ (g.M.write d b v).1=6)(aQ:¬ (g.M.write d b v).1=1)(aV:¬ (g.M.write d b v).1=5) :
  Pq 197 #[O5 k,O3 d,Pj b,vA v,Pv aZ] w (gX M k I z am w ((.no,{ g with M:=(g.M.write d b v).2 }))):=by
 have l{G}(h:G:=by
 have l{G}(h:G:=by
 obtain⟨aS,W⟩:=xE ((g.M.write d b v).1);rw[<-W] at ah aY aW aQ aV;clear W;have l{G}(h:G:=by
 have aF:=ap.trans ac;have aG:=r.lt;have f:=W9 aS E (r.et p o);exact LB):=O6 h;exact Ka):=O6 h;exact B3):=O6 h;exact xR
def C3 (a:Bool) :
  Pq 197 #[O5 k,O3 d,Pj b,vA v,Pv a] w (gX M k I z am w (YV d b v a g)):=by
 unfold YV;simp only
 by_cases i:(g.M.write d b v).1=7
 ·rw[fL i];exact Nv p o q s B d b v a i
 rw[fK i]
 by_cases f:(g.M.write d b v).1=6
 ·rw[fL f];exact aFL p o q s B d b v a f
 rw[fK f]
 by_cases e:(g.M.write d b v).1=1
 ·rw[fL e];exact aFN p o q s B d b v a e
 rw[fK e]
 by_cases c:(g.M.write d b v).1=5
 ·rw[fL c]
  cases a with
  | true=>exact aAA p o q s B d b v c
  | false=>exact Uv p o q s B d b v c
 rw[fK c];exact asa p o q s B d b v a i f e c
end
def n7 (i:Fx)(d l:Nd)(j:Pl)(g:St):(Va × Er) × St:=match i.v (Pg d 0) j g with
 | ((c,.no),f)=>match i.v l j f with
  | ((e,.no),a)=>if c.k≠5 then ((vU,f0 gB),a) else ((e,m4 (a.M.put c.n d.2.tx e false).1),a.Rj c.n d.2.tx e false)
  | ((_,b),a)=>((vU,b),a)
 | ((_,b),f)=>((vU,b),f)
def ui (e:Fx)(b f:Nd)(a:Pl)(g:St):(Va × Er) × St:=match e.v f a (look b a g).2 with
 | ((d,.no),c)=>((d,(YV (look b a g).1 b.2.tx d a.fT c).1),(YV (look b a g).1 b.2.tx d a.fT c).2)
 | ((_,d),c)=>((vU,d),c)
variable {U:Fx}
def Kp.UG {w w':Pe}(h:Kp w w'){a e:Nat}{f:Px}{c:TypeId}(j:w.cell? (O7 a e)=some f)(b:∃ d,w.heap[a]? = some (PZ d c))(l:c=40\/c=22):w'.cell? (O7 a e)=some f:=by
 obtain⟨d,b⟩:=b;have i:w'.heap[a]? = w.heap[a]?:=(h a d c b l).trans b.symm;exact(gs (w:=w) (a:=(O7 a e)) i).trans j
def PX.tC {a:Ad}{j:Nd}(h:PX z w a j){c l i:Nat}(b:w.cell? (O7 a.p 3)=some (.slice (some (O7 c 0)) l i)):∃ e,w.heap[c]? = some (PZ e 22):=by
 obtain⟨_,_,_,_,m,f,d⟩:=h.cells;rw[f] at b;cases b;exact QM d.1 rfl
def XX (ay:ig am)(ah:Ms M k I z w g){u N:Ad}{C cg:Nd}(aJ:PX z w u C)(dB:PX z w N cg)(ai:C.2.fJ.length=1)(d:Pl)(o:Option Addr)(ad:Ux M k I z am g (Pg C 0) d (U.v (Pg C 0) d g))
  (ak:∀ f T,U.v (Pg C 0) d g=((f,.no),T)->Ux M k I z am T cg d (U.v cg d T)) (dn:∀ f T t W,U.v (Pg C 0) d g=((f,.no),T)->U.v cg d T=((t,.no),W)->Sz bD W) (dM:bD<1000000000) :
  Pq 292 #[O5 k,O5 u.p,O5 N.p,Qy d o] w (P5 M k I z am w (n7 U C cg d g)):=by
 have b{G}(h:G:=by
 have cO:=Y F;have bB:=Y (fN F);have b{G}(h:G:=by
 obtain⟨cJ,cw,d2,bx,bq,cK,_⟩:=aZ.Zf (a:=0) O9;rw[ai] at bx;obtain⟨aj,a1⟩:=xH u.p;obtain⟨d1,dr⟩:=xH N.p;obtain⟨ed,bS⟩:=xE cJ.p;have b{G}(h:G:=by
 have dy:=dB.kp (Kp.of ap);obtain⟨cC,dh⟩:=xE (n7 U C cg ⟨l,q,r⟩ g);rw[<-dh,<-a1.out,<-dr.out];have b{G}(h:G:=by
 have a6:=Y dh;have cr:=Y X;have dL:=Y ak;have dI:=Y dn;clear F aW dh X ad bo aY bC bx bq bS ak dn;go_enter func292,ntmps292;go_wp2_with fail;refine iz ?_;clear bu bh;refine WJ (H:=λwz D s=>VB M k I z am w2 f E T wz D s) (G:=?GG) (λaN=>?ways) ?rest
 case ways=>
  exact nU
 case rest=>
  rintro wz D s A;have b{G}(h:G:=by
  have b{G}(h:G:=by
  have dT:=aZ.kp A.fr.Vo;have dz:=dy.kp A.fr.Vo
  by_cases B:E=.no
  ·subst B;have cf:s=QW:=A.er;subst cf;have dg:=O4 dL f T cr.out wz N o A.ms dz;rw[<-dr.out] at dg;obtain⟨dC,dO,dE,dF,_,dH⟩:=fN cP.out
   rcases bh:U.v cg ⟨l,q,r⟩ T with ⟨⟨t,bR⟩,W⟩
   rw[bh] at dg;have cV:=Y bh;clear bh;go_wp2_with fail;refine cm dg ?_;rintro m aI ⟨⟨s,rfl,aG⟩,b7,cS⟩;have dJ:=aG;have bF:=Y (cS.fR b1.out Pm);have dq:=Y (cS.fR A.v Pm);have cG:=b4.trans cS;have dS:=dT.kp cS.Vo;have c8:=b7.lt;clear dC dO dE dF dH b6 ch ci ck cl cn cp bI bG bT bY bU bV bW;obtain⟨b6,ch,ci,ck,cl,cn,cp⟩:=Qb bF.out;obtain⟨bI,bG,bT,bY,bU,bV,bW⟩:=Qb dq.out
   by_cases aK:bR=.no
   ·subst aK;have cf:s=QW:=aG;subst cf
    by_cases cz:f.k=5
    ·obtain⟨bc,dk⟩:=xH f.n;have dG:=O4 dI f T t W cr.out cV.out;obtain⟨b9,dc⟩:=xE C.2.tx;obtain⟨cU,cT⟩:=xE ((W.M.put bc b9 t false).1);have p:cC=((t,m4 cU),W.Rj bc b9 t false):=by rw[a6.out];unfold n7;rw[cr.out];dsimp only;rw[cV.out];dsimp only;rw[fK (by simp[cz]),cT,dk.out,dc]
     have de:=Y p;have dt:=Y (wX W.M bc b9 t false);rw[<-cT] at dt;rw[cz] at bI;rw[<-dk.out] at bG;have dU:=Y cz;clear p cz;go_wp2_with fail;obtain⟨bv,ac⟩:=xE (aI.alloc (.cells #[O3 t.k,O3 t.n,Pj t.s] 65));obtain⟨dp,dd⟩:=xE aI.heap.size;have b2:Pn aI bv:=by rw[ac];exact QJ
     have da:bv.heap[dp]? = some (ZK t):=by rw[ac,dd];exact Ph _ _
     have b3:=b7.fH b2;have cL:=Y (fQ b2 bF.out);have dm:=fQ b2 dq.out;have dl:Hid (bv.heap[D]? = some (PZ #[O3 5,O3 bc,Pj f.s] 65)):=by
      show _=_
      rw[dm,dU.out,dk.out]
     have cu:=Y da;have cM:=cG.trans (P8.of (L:=none) b2 (P6 c8));have dj:=dS.kp (Kp.of b2);have cR:=dj.cells.2.2.1;have dA:=dj.cells.1;rw[<-a1.out] at cR dA;rw[<-dc] at cR;have ds:=Y dj.gw;rw[<-a1.out] at ds;have dK:=Y cR;have cy:=b3.lt;have ea:=fI da;have d0:=fI dl.out;have dP:Hid (∀ L,Ms M k I z L W->Pq 56 #[O5 k,O3 bc,Pj b9,vA t,Pv false] L λm w'=>m=PK (U4 cU)/\Ms M k I z w' (W.Rj bc b9 t false)/\Ql Th k L w'):=λL i=>by
      obtain⟨_,_,_,_,dD⟩:=i;refine(ZQ dD dG dM bc b9 t false).mono ?_;rintro m w' ⟨rfl,ak,bZ⟩;rw[cT];exact⟨rfl,⟨_,_,_,_,ak⟩,bZ⟩
     have ec:dp≠H:=λm=>by
      have ad:=fI bF.out;omega
     try rw[<-ac,<-dd]
     clear ac da dm cR dc cT dd b6 ch ci ck cl cn cp bI bG bT bY bU bV bW;have a:P8 none k bv bv.drew:=P8.of RP.drew (P6 cy);refine Qq 12 (λL=>P8 none k bv L) Qs ?_;refine uc 0 (.agg #[O3 t.k,O3 t.n,Pj t.s]) rfl (fM ⟨by kernel_rfl,λL i=>by have aO:=(fX (i.fR cu.out Pm)).1;have ad:=(fX (i.fR cu.out Pm)).2.1;have ak:=(fX (i.fR cu.out Pm)).2.2.1;go_simp⟩) (a) ?_
     refine up 1 k 0 a ?_;refine up 2 k 0 a ?_;refine up 3 k 0 a ?_;refine up 4 D 1 a ?_;refine uc 5 (O3 bc) rfl (fM ⟨by kernel_rfl,λL i=>by have aO:=(fX (i.fR dl.out Pm)).2.1;go_simp⟩) (a) ?_
     refine up 6 aj 0 a ?_;refine up 7 aj 0 a ?_;refine up 8 aj 1 a ?_;refine uc 9 (Pj b9) rfl (fM ⟨by kernel_rfl,λL i=>by have aO:=i.Vo.YJ dK.out ds.out;go_simp⟩) (a) ?_
     refine uc 10 (.agg #[O3 t.k,O3 t.n,Pj t.s]) rfl (fM ⟨by kernel_rfl,λL i=>by have aO:=(fX (i.fR cu.out Pm)).1;have ad:=(fX (i.fR cu.out Pm)).2.1;have ak:=(fX (i.fR cu.out Pm)).2.2.1;go_simp⟩) (a) ?_
     refine Rl 11 λK c=>?_;go_simp;refine cm (O4 dP _ (b3.fH RP.drew)) ?_;rintro m wf ⟨rfl,dR,dQ⟩;have di:P8 none k bv wf:=a.trans (P8.jR dQ);refine c.out _ _ (λ_=>di) ?_;clear c K;have dx:=Y (di.fR cL.out Pm);have dN:=cM.trans di;obtain⟨d4,d5,d6,d7,d8,d9,d3⟩:=Qb dx.out;refine uaZ 12 ?_;refine uz 13 (U4 cU) ?_;refine TQ ?_ _;go_simp;go_wp2_with fail;obtain⟨bn,aV,aQ,aD,aC,bm,be,bj⟩:=iT dx.out a7.out aS dN dR (O3 t.k) (O3 t.n) (Pj t.s);rw[<-aV]
     refine XW (v:=.tuple #[vA t,U4 cU]) ?_;rw[de.out];exact⟨⟨_,rfl,xC dt.out⟩,aC,aD⟩
    ·have p:cC=((vU,f0 gB),W):=by rw[a6.out];unfold n7;rw[cr.out];dsimp only;rw[cV.out];dsimp only;rw[fL cz]
     have de:=Y p;clear p;go_wp2_with fail;obtain⟨bv,ac⟩:=xE (aI.alloc (.cells #[O3 t.k,O3 t.n,Pj t.s] 65));have b{G}(h:G:=by
     try rw[<-ac]
     clear ac b6 ch ci ck cl cn cp bI bG bT bY bU bV bW;refine cm (Vz (es:=am) cy gB) ?_;rintro m cU ⟨⟨s,rfl,aG⟩,bc⟩;have b9:=Y (fQ bc cL.out);have dd:=b3.fH bc;have dc:=cM.trans (P8.of (L:=none) bc (P6 cy));obtain⟨cT,cu,cR,da,di,dj,dk⟩:=Qb b9.out;have b{G}(h:G:=by
     have p:cC=((vU,f0 gB),W):=O4 de;rw[p];exact⟨⟨_,rfl,aG.Rf aQ Pm⟩,aC,aD⟩):=O6 h;exact vi):=O6 h;exact z6
   ·obtain⟨bL,bM,cf⟩:=aG.XO aK ay;subst cf;have p:cC=((vU,bR),W):=by
     rw[a6.out];unfold n7;rw[cr.out];dsimp only;rw[cV.out];exact yL
    have c9:=Y p;clear aK p bI bG bT bY bU bV bW;go_wp2_with fail;obtain⟨bn,aV⟩:=xE ((((aI.setCell (O7 H 0) (O3 0)).setCell (O7 H 1) (O3 0)).setCell (O7 H 2) (Qn)).alloc (.cells #[O3 t.k,O3 t.n,Pj t.s] 65));rw[<-aV];have b3:k<=H:=by have:=O4 a7;omega
    have aQ:=Tn bF.out b3 (O3 0) (O3 0) (Qn);have ac:=(f2 _ (((aI.setCell (O7 H 0) (O3 0)).setCell (O7 H 1) (O3 0)).setCell (O7 H 2) (Qn))).alloc Qp (.cells #[O3 t.k,O3 t.n,Pj t.s] 65);have bK{G}(h:G:=by
    have bc:=(dJ.Rf aQ Pm).fH ac;exact zs):=O6 h;exact I1
  ·obtain⟨bL,bM,cf⟩:=A.er.XO B ay;subst cf;have p:cC=((vU,E),T):=by
    rw[a6.out];unfold n7;rw[cr.out];exact jZ
   have c9:=Y p;clear B p;have a6:=c9;exact vt):=O6 h;exact r3):=O6 h;exact vu):=O6 h;exact p1):=O6 h;exact pA):=O6 h;exact VF):=O6 h;exact Yf
def PX.qt {i:Ad}{c:Nd}(h:PX z w i c)(j:c.2.fJ.length=2):∃ a b e l,w.cell? (O7 i.p 3)=some (.slice (some (O7 e 0)) 2 l)/\w.cell? (O7 e 0)=some (O5 a.p)/\w.cell? (O7 e 1)=some (O5 b.p)/\PX z w a (Pg c 0)/\PX z w b (Pg c 1):=by
 obtain⟨a,n,m,f,o,q,_⟩:=h.Zf (a:=0) O9;obtain⟨b,s,t,d,p,r,_⟩:=h.Zf (a:=1) O9;rw[j] at f d;rw[f] at d;simp only[hc,g7,iL,js,kC] at d;obtain⟨rfl,rfl⟩:=d;exact⟨a,b,n,m,f,o,p,q,r⟩
def acv (ay:ig am)(ah:Ms M k I z w g){u:Ad}{p:Nd}(aJ:PX z w u p)(ai:p.2.fJ.length=2)(d:Pl)(o:Option Addr)
  (D:(Pg p 0).2.kd=36) (E:(Pg p 0).2.fJ.length=1) (ad:Ux M k I z am g (Pg (Pg p 0) 0) d (U.v (Pg (Pg p 0) 0) d g))
  (ak:∀ f A,U.v (Pg (Pg p 0) 0) d g=((f,.no),A)->Ux M k I z am A (Pg p 1) d (U.v (Pg p 1) d A)) (C:∀ f A t a,U.v (Pg (Pg p 0) 0) d g=((f,.no),A)->U.v (Pg p 1) d A=((t,.no),a)->Sz bD a) (aK:bD<1000000000) :
  Pq 257 #[O5 k,O5 u.p,Qy d o] w (P5 M k I z am w (n7 U (Pg p 0) (Pg p 1) d g)):=by
 have b{G}(h:G:=by
 have T:=Y (fN F);have b{G}(h:G:=by
 have b{G}(h:G:=by
 rw[D] at cw;have aF:=Y (λL (i:Pn w2 L)=>XX ay (bf.fH i) (bx.kp (Kp.of i)) (cZ.kp (Kp.of i)) E ⟨l,q,r⟩ o ad ak C aK);obtain⟨aC,B⟩:=xE (n7 U (Pg p 0) (Pg p 1) ⟨l,q,r⟩ g);rw[<-B,<-bG.out,<-cu.out] at aF;rw[<-B];have b{G}(h:G:=by
 have aN:=fV bF.out;clear F aW cr bo aY bC cn bU bT bS B ad ak C D E;go_enter func257,ntmps257;go_wp2_with fail;refine iz ?_;clear bu bh;refine UC 14 λa=>?_;refine vq ?_;refine uk 6 bF.out a ?_;refine up 7 aj 0 a ?_;refine up 8 aj 0 a ?_;refine up 9 aj 3 a ?_;refine uk 10 ci.out a ?_;refine up 11 bI 1 a ?_;refine uk 12 c8.out a ?_;refine kT 13 T.out a ?_;refine Rl 14 λK c=>?_;go_simp;refine l9 ?_;have b{G}(h:G:=by
 have b{G}(h:G:=by
 refine uz 15 (vA W) ?_;refine uz 16 s ?_;refine uaZ 17 ?_;refine uz 18 s ?_;refine TQ ?_ _;go_simp;exact rF):=O6 h;exact H1):=O6 h;exact kP):=O6 h;exact EA):=O6 h;exact Hf):=O6 h;exact VF):=O6 h;exact Yf
def acw (ay:ig am)(cG:Bs M k I z am)(cQ:SY M)(ah:Ms M k I z w g){u:Ad}{p:Nd}(aJ:PX z w u p)(ai:p.2.fJ.length=2)(d:Pl)(o:Option Addr)
  (de:¬ (Pg p 0).2.kd=36) (ak:Ux M k I z am (look (Pg p 0) d g).2 (Pg p 1) d (U.v (Pg p 1) d (look (Pg p 0) d g).2)) (dd:Sz bD g) (bY:∀ f C,U.v (Pg p 1) d (look (Pg p 0) d g).2=((f,.no),C)->Sz bD C) (dA:bD+1<1000000000) :
  Pq 257 #[O5 k,O5 u.p,Qy d o] w (P5 M k I z am w (ui U (Pg p 0) (Pg p 1) d g)):=by
 have b{G}(h:G:=by
 have dm:=Y F;have dt:=Y (fN F);have b{G}(h:G:=by
 have b{G}(h:G:=by
 obtain⟨ed,cR⟩:=xE ((Pg p 0).2.kd);rw[<-cR] at cw de;obtain⟨bc,cg⟩:=xE ((look (Pg p 0) ⟨l,q,r⟩ g).1);obtain⟨dI,bv⟩:=xE ((look (Pg p 0) ⟨l,q,r⟩ g).2);have a1:=Y (λL (i:Pn w2 L)=>Ih cG (bf.fH i) dd O9 (bx.kp (Kp.of i)) ⟨l,q,r⟩ o);rw[<-cg,<-bv,<-bG.out] at a1;rw[<-bv] at ak bY;obtain⟨bq,b3⟩:=xE ((Pg p 0).2.tx)
 rcases X:U.v (Pg p 1) ⟨l,q,r⟩ dI with ⟨⟨f,E⟩,C⟩
 rw[X] at ak;obtain⟨ck,b6⟩:=xE (ui U (Pg p 0) (Pg p 1) ⟨l,q,r⟩ g);rw[<-b6];have a6:Hid (ck=match (((f,E),C):(Va × Er) × St) with
  | ((v,.no),C)=>((v,(YV bc bq v r C).1),(YV bc bq v r C).2)
  | ((_,m),C)=>((vU,m),C)):=by
  show _=_
  rw[b6];unfold ui;rw[<-bv,X,<-cg,<-b3]
  all_goals cases E <;> rfl
 have di:=Y X;have dy:=ak;have dK:=Y bY;have b9:=bx.cells.2.2.1;rw[<-b3,<-bG.out] at b9;have dF:=Y b9;have dB:=bx.cells.1;rw[<-bG.out] at dB;have b{G}(h:G:=by
 have cf:=Y cn;have cM:=Y bU;have cC:=Y bT;have ej:=fV bF.out;clear F aW cr bo aY bC cn bU bT bS b6 X ak bY cg bv cR b3 b9;go_enter func257,ntmps257;go_wp2_with fail;refine iz ?_;clear bu bh;refine UC 8 λa=>?_;refine vq ?_;refine uk 6 bF.out a ?_;refine kT 7 dt.out a ?_;refine Rl 8 λK c=>?_;go_simp;refine rR ?_;rintro m T ⟨rfl,cL,dz⟩;refine ko c ?_;clear c K;have aK:=(P8.of (L:=none) a (P6 bO)).trans dz;have cJ:=Y (aK.fR bQ.out Pm)
 have b7:=Y (aK.fR dm.out Pm);have c9:=Y (fN b7.out);have dl:=bE.trans aK;have ch:=Y (aK.Vo.UG ci.out cM.out (fM rfl));have bR:=Y (aK.Vo.UG c8.out cf.out (fU rfl));have dc:=Y (aK.Vo.UG bF.out cf.out (fU rfl));have dN:=Y (aK.Vo.UG dF.out cC.out (fM rfl));have cT:Hid (∃ e,T.heap[aj]? = some (PZ e 40)):=by obtain⟨e,W⟩:=O4 cM;exact⟨e,aK.Vo _ _ _ W (fM rfl)⟩
 have cU:Hid (∃ e,T.heap[bI]? = some (PZ e 22)):=by obtain⟨e,W⟩:=O4 cf;exact⟨e,aK.Vo _ _ _ W (fU rfl)⟩
 have cD:Hid (∃ e,T.heap[bB]? = some (PZ e 40)):=by obtain⟨e,W⟩:=O4 cC;exact⟨e,aK.Vo _ _ _ W (fM rfl)⟩
 have bV:=cL.lt;have dT:=fI b7.out;have em:aj<T.heap.size:=fV ch.out;have d2:bI<T.heap.size:=fV bR.out;have aF:=Y (λL (i:Pn T L)=>dy L cV o (cL.fH i) ((cZ.kp aK.Vo).kp (Kp.of i)));rw[<-cu.out] at aF;refine uz 9 (O3 bc) ?_;refine TQ ?_ _;go_simp;go_wp2_with fail;refine WJ (H:=λwz D s=>VB M k I z am T f E C wz D s) (G:=?GG) (λaN=>?ways) ?rest
 case ways=>
  refine UC 8 λa=>?_;refine kI ?_;refine uk 4 ch.out a ?_;refine up 5 bI 1 a ?_;exact Eh
 case rest=>
  rintro wz D s A;have cx:=A.fr.fR cJ.out Pm;have b1:=Y cx;obtain⟨dk,dh,dn,dp,dq,dr,dJ⟩:=Qb (cx);have ds:=A.ms.lt;have d1:D≠H:=λm=>by
   have ad:=A.vb;have ak:=fI cJ.out;omega
  have b4:P8 none k w wz:=dl.trans A.fr;have cK:=Y (A.fr.fR b7.out Pm);clear cx
  by_cases B:E=.no
  ·subst B;have bW:s=QW:=A.er;subst bW;have dg:=O4 dK f C di.out;obtain⟨cl,bM⟩:=xE (YV bc bq f r C);have aI:ck=((f,cl.1),cl.2):=by rw[a6.out,bM]
   have dj:=Y aI;have dD:Hid (∀ L,Ms M k I z L C->Pq 197 #[O5 k,O3 bc,Pj bq,vA f,Pv r] L (gX M k I z am L cl)):=λL i=>by
    rw[bM];exact C3 cG cQ i dg dA bc bq f r
   have ac:=Y A.v;have dC:=A.ms;have cS:=Y (A.fr.Vo.UG ch.out cT.out (fM rfl));have cA:=Y (A.fr.Vo.UG dc.out cU.out (fU rfl));have cP:=Y (A.fr.Vo.UG dN.out cD.out (fM rfl));have dL:Hid (∃ e,wz.heap[aj]? = some (PZ e 40)):=by obtain⟨e,W⟩:=O4 cT;exact⟨e,A.fr.Vo _ _ _ W (fM rfl)⟩
   have dM:Hid (∃ e,wz.heap[bI]? = some (PZ e 22)):=by obtain⟨e,W⟩:=O4 cU;exact⟨e,A.fr.Vo _ _ _ W (fU rfl)⟩
   have da:Hid (∃ e,wz.heap[bB]? = some (PZ e 40)):=by obtain⟨e,W⟩:=O4 cD;exact⟨e,A.fr.Vo _ _ _ W (fM rfl)⟩
   have d3:=fV cS.out;have ek:=fV cA.out;have dU:=fV cP.out;have d8:=fI cK.out;have d0:=fI A.v;clear bM aI dk dh dn dp dq dr dJ;go_wp2_with fail;have a:P8 none k wz wz.drew:=P8.of RP.drew (P6 ds);refine Qq 16 (λL=>P8 none k wz L) Qs ?_;refine uc 0 (.agg #[O3 f.k,O3 f.n,Pj f.s]) rfl (fM ⟨by kernel_rfl,λL i=>by have aO:=(fX (i.fR ac.out Pm)).1;have ad:=(fX (i.fR ac.out Pm)).2.1;have ak:=(fX (i.fR ac.out Pm)).2.2.1;go_simp⟩) (a) ?_
   refine up 1 k 0 a ?_;refine uh 2 (O3 bc) (a) ?_;refine up 3 aj 0 a ?_;refine up 4 aj 0 a ?_;refine up 5 aj 3 a ?_;refine uc 6 (.slice (some (O7 bI 0)) 2 dO) rfl (fM ⟨by kernel_rfl,λL i=>by have aO:=i.Vo.UG cS.out dL.out (fM rfl);go_simp⟩) (a) ?_
   refine up 7 bI 0 a ?_;refine uc 8 (PL bB 0) rfl (fM ⟨by kernel_rfl,λL i=>by have aO:=i.Vo.UG cA.out dM.out (fU rfl);go_simp⟩) (a) ?_
   refine up 9 bB 0 a ?_;refine up 10 bB 1 a ?_;refine uc 11 (Pj bq) rfl (fM ⟨by kernel_rfl,λL i=>by have aO:=i.Vo.UG cP.out da.out (fM rfl);go_simp⟩) (a) ?_
   refine uc 12 (.agg #[O3 f.k,O3 f.n,Pj f.s]) rfl (fM ⟨by kernel_rfl,λL i=>by have aO:=(fX (i.fR ac.out Pm)).1;have ad:=(fX (i.fR ac.out Pm)).2.1;have ak:=(fX (i.fR ac.out Pm)).2.2.1;go_simp⟩) (a) ?_
   refine up 13 cB 2 a ?_;refine uc 14 (Pv r) rfl (fM ⟨by kernel_rfl,λL i=>by have aO:=(fN (i.fR cK.out Pm)).2.2.1;go_simp⟩) (a) ?_
   refine Rl 15 λK c=>?_;go_simp;refine cm (O4 dD _ (dC.fH RP.drew)) ?_;rintro m wf ⟨⟨s,rfl,aG⟩,dH,dG⟩;have bL:P8 none k wz wf:=a.trans dG;refine c.out _ _ (λ_=>bL) ?_;clear c K;have cO:=Y (bL.fR b1.out Pm);have dE:=b4.trans bL;obtain⟨d5,d6,d7,d9,ea,ec,d4⟩:=Qb cO.out;refine uaZ 16 ?_;refine uz 17 s ?_;refine TQ ?_ _;go_simp;go_wp2_with fail;obtain⟨bn,aV,aQ,aD,aC,bm,be,bj⟩:=iT cO.out a7.out aS dE dH (O3 f.k) (O3 f.n) (Pj f.s);rw[<-aV]
   refine XW (v:=.tuple #[vA f,s]) ?_;rw[dj.out];exact⟨⟨_,rfl,aG.Rf aQ Pm⟩,aC,aD⟩
  ·obtain⟨bL,bM,bW⟩:=A.er.XO B ay;subst bW;have aI:ck=((vU,E),C):=by
    rw[a6.out];exact jZ
   have ac:=Y aI;clear B aI;have a6:=ac;exact vt):=O6 h;exact EA):=O6 h;exact Hf):=O6 h;exact VF):=O6 h;exact Yf
def LA:Option Nat->Option Addr
 | none=>none
 | some a=>some (O7 a 0)
def PU (w:Pe):Option Nat->Option Va->Prop
 | none,none=>True
 | some a,some b=>w.heap[a]? = some (ZK b)
 | _,_=>False
def qn (c:(Va × Er) × St):Er × St:=match c with
 | ((b,.no),a)=>(.Yq b,a)
 | ((_,b),a)=>(b,a)
def nO (b:Option Va)(d:(Va × Er) × St):(Er × Option Va) × St:=match d with
 | ((c,.no),a)=>((.no,b.map λ_=>c),a)
 | ((_,c),a)=>((c,b),a)
def oY (U:Fx)(a:Nd)(b:Pl)(g:St):Er × St:=match U.v (Pg a 0) b g with
 | ((d,.no),c)=>YV (g.M.find b.scope a.2.tx) a.2.tx d b.fT c
 | ((_,d),c)=>(d,c)
def k0 (b:Nd)(c:Pl)(e:(Va × Er) × St):Er × St:=match e with
 | ((d,.no),a)=>(m4 (a.M.start c.scope b.2.tx d).1,{ a with M:=(a.M.start c.scope b.2.tx d).2 })
 | ((_,d),a)=>(d,a)
variable {au:Option Nat}
def PU.fR {a:Option Va}(h:PU w au a)(b:P8 none k w w'):PU w' au a:=by
 cases au <;> cases a <;> first|exact h|exact b.fR h Pm
def om (M:Pe)(k I:Nat)(z:List Nat)(am:Px)(au:Option Nat)(w:Pe)(a:(Er × Option Va) × St)(c:Ending)(w':Pe):Prop:=
 (∃ b,c=PK b/\X8 am w' b a.1.1)/\Ms M k I z w' a.2/\P8 au k w w'/\PU w' au a.1.2
section
variable (ah:Ms M k I z w g) {A:Px}
include ah A
def alC (X:TY 0 w A [])(d:Pl)(o:Option Addr) :
  Pq 114 #[O5 k,A,Qy d o] w (P5 M k I z am w ((vU,.no),g)):=by
 have b{G}(h:G:=by
 obtain⟨ua,p,a⟩:=X.form;rw[mE] at a;subst a;have bK{G}(h:G:=by
 have e:=Y aW;clear F aW bo aY bB;go_enter func114,ntmps114;go_wp2_with fail;obtain⟨f,c⟩:=xE ((w.alloc (.cells #[O3 l,O3 q,Pv r,.pointer o] 73)).alloc (.cells #[O3 0,O3 0,Qn] 65));rw[<-c];have i:f=w2:=by rw[c];exact cq.out.symm
 rw[i,<-bh];obtain⟨bm,be,bj,_,_⟩:=fX e.out;exact nz (v:=.tuple #[vA vU,QW]) ⟨⟨_,rfl,rfl⟩,bf,bE⟩):=O6 h;exact rZ):=O6 h;exact x0
def MV {j:Ad}{p:Nd}(X:TY 0 w A [j])(aJ:PX z w j p)(d:Pl)(o:Option Addr)(ad:Ux M k I z am g p d (U.v p d g)) :
  Pq 114 #[O5 k,A,Qy d o] w (P5 M k I z am w (U.v p d g)):=by
 have b{G}(h:G:=by
 obtain⟨C,aN,D,a1,E,_⟩:=(X.fH ap).cell 0 P7;rw[show ([j]:List Ad).length=1 from rfl] at D;subst D;have bK{G}(h:G:=by
 have bQ:=Y aW;have aQ:=Y (fN F);have a7:=Y aY;have aF:=Y (λL (i:Pn w2 L)=>ad L j o (bf.fH i) ((aJ.kp (Kp.of ap)).kp (Kp.of i)));obtain⟨aC,T⟩:=xE (U.v p ⟨l,q,r⟩ g);rw[<-T] at aF ⊢;obtain⟨aZ,B⟩:=xE j.p;have aj:w2.cell? (O7 C 0)=some (O5 aZ):=by rw[B];exact E
 rw[<-B] at aF;have aK:=Y aj;have bO:=bf.lt;have a6:=fI F;clear F aW ad E B bo aY bB T aj;go_enter func114,ntmps114;go_wp2_with fail;refine iz ?_;clear bu bh;refine UC 5 λa=>?_;refine up 0 k 0 a ?_;refine uh 1 (.slice (some (O7 C 0)) 1 aN) (a) ?_;refine up 2 C 0 a ?_;refine uk 3 aK.out a ?_;refine kT 4 aQ.out a ?_;refine Rl 5 λK c=>?_;go_simp;refine l9 ?_;have b{G}(h:G:=by
 have b{G}(h:G:=by
 refine uz 6 (vA W) ?_;refine uz 7 s ?_;refine uaZ 8 ?_;refine uz 9 s ?_;refine TQ ?_ _;go_simp;exact rF):=O6 h;exact H1):=O6 h;exact kP):=O6 h;exact rZ):=O6 h;exact x0
end
section
variable (ay:ig am) (ah:Ms M k I z w g) {u:Ad} {p:Nd} (aJ:PX z w u p) (ai:p.2.fJ.length=1) (A:Pl)
include ay ah u p aJ ai A
def OA (o:Option Addr)(ad:Ux M k I z am g (Pg p 0) A (U.v (Pg p 0) A g)) :
  Pq 115 #[O5 k,O5 u.p,Qy A o] w (gX M k I z am w (qn (U.v (Pg p 0) A g))):=by
 have aS:=ah.lt;have b{G}(h:G:=by
 have T:w.heap.size<=W:=O9;have b{G}(h:G:=by
 have bB:=Y (fN F);have b{G}(h:G:=by
 have b{G}(h:G:=by
 have b{G}(h:G:=by
 have b{G}(h:G:=by
 obtain⟨aY,aK⟩:=xH (qn ((f,E),C));have b{G}(h:G:=by
 have b{G}(h:G:=by
 clear F X ad T bx bq bS;go_enter func115,ntmps115;go_wp2_with fail;rw[<-aV.out,<-aD];clear aD;refine WJ (H:=λwz D s=>VB M k I z am w2 f E C wz D s) (G:=?GG) (λaN=>?ways) ?rest
 case ways=>
  exact nU
 case rest=>
  have b{G}(h:G:=by
  obtain⟨j,c,e,N,m,n,t⟩:=Qb (d.v)
  by_cases B:E=.no
  ·subst B;have ax:s=QW:=d.er;subst ax;go_wp2_with fail;have a:=(f2 wz.heap.size wz).alloc Qp (.cells #[O3 f.k,O3 f.n,Pj f.s] 126);refine Vm (v:=.iface 122 (PL wz.heap.size 0)) ?_;have H:aY=(.Yq f,C):=O4 aK;rw[H];exact⟨⟨_,rfl,_,rfl,Ph _ _⟩,d.ms.fH a,ac.trans (P8.of (L:=none) a (P6 br))⟩
  ·exact Af):=O6 h;exact tA):=O6 h;exact rQ):=O6 h;exact r2):=O6 h;exact pu):=O6 h;exact pA):=O6 h;exact nw):=O6 h;exact nu):=O6 h;exact oK):=O6 h;exact m9
def Oz (ad:Ux M k I z am g (Pg p 0) A (U.v (Pg p 0) A g)) :
  Pq 117 #[O5 k,O5 u.p,Qy A none] w (om M k I z am none w (nO none (U.v (Pg p 0) A g))):=by
 have aS:=ah.lt;obtain⟨l,q,r⟩:=A;obtain⟨w2,o⟩:=xH (w.alloc (.cells #[O3 l,O3 q,Pv r,Ry] 73));have ap:Pn w w2:=by rw[o.out];exact QJ
 obtain⟨T,H⟩:=xE w.heap.size;have F:w2.heap[T]? = some (PZ #[O3 l,O3 q,Pv r,Ry] 73):=by rw[o.out,H];exact Ph _ _
 have aD:w.heap.size<=T:=O9;have b{G}(h:G:=by
 have aC:=Y F;have bB:=Y (fN F);have b{G}(h:G:=by
 have b{G}(h:G:=by
 have aF:=Y (λL (i:Pn w2 L)=>ad L cJ none (bf.fH i) (cK.kp (Kp.of i)));have b{G}(h:G:=by
 obtain⟨W,aK⟩:=xH (nO none ((f,E),C));have b{G}(h:G:=by
 have b{G}(h:G:=by
 clear F X ad aD bx bq bS;go_enter func117,ntmps117;go_wp2_with fail;rw[<-o.out,<-H];clear H;refine WJ (H:=λwz D s=>VB M k I z am w2 f E C wz D s) (G:=?GG) (λaN=>?ways) ?rest
 case ways=>
  exact nU
 case rest=>
  have b{G}(h:G:=by
  have j:=Y (d.fr.fR aC.out Pm);obtain⟨aL,N,ax,aW,aO,aQ,aV⟩:=Qb (d.v);obtain⟨t,aX,O,aG,_,aI⟩:=fN j.out
  by_cases B:E=.no
  ·subst B;have c:s=QW:=d.er;subst c;go_wp2_with fail;refine Vm (v:=QW) ?_;have a:W=((.no,none),C):=O4 aK;rw[a];exact⟨⟨_,rfl,rfl⟩,d.ms,ac,trivial⟩
  ·obtain⟨m,n,c⟩:=d.er.XO B ay;subst c;have a:W=((E,none),C):=by
    rw[aK.out];exact jZ
   have e:=Y a;clear B a;go_wp2_with fail;refine Vm (v:=.iface m n) ?_;rw[e.out];exact⟨⟨_,rfl,d.er⟩,d.ms,ac,trivial⟩):=O6 h;exact tA):=O6 h;exact rQ):=O6 h;exact r2):=O6 h;exact pu):=O6 h;exact nw):=O6 h;exact nu):=O6 h;exact oK
def OI {b2:Va}{o:Nat}(ba:w.heap[o]? = some (ZK b2))(aQ:k<=o)(ad:Ux M k I z am g (Pg p 0) A (U.v (Pg p 0) A g)) :
  Pq 117 #[O5 k,O5 u.p,Qy A (some (O7 o 0))] w (om M k I z am (some o) w (nO (some b2) (U.v (Pg p 0) A g))):=by
 have aS:=ah.lt;obtain⟨l,q,r⟩:=A;obtain⟨w2,T⟩:=xH (w.alloc (.cells #[O3 l,O3 q,Pv r,PL o 0] 73));have ap:Pn w w2:=by rw[T.out];exact QJ
 obtain⟨H,W⟩:=xE w.heap.size;have F:w2.heap[H]? = some (PZ #[O3 l,O3 q,Pv r,PL o 0] 73):=by rw[T.out,W];exact Ph _ _
 have aW:w.heap.size<=H:=O9;have b{G}(h:G:=by
 have aV:=Y F;have bB:=Y (fN F);have b{G}(h:G:=by
 have b{G}(h:G:=by
 have aF:=Y (λL (i:Pn w2 L)=>ad L cJ (some (O7 o 0)) (bf.fH i) (cK.kp (Kp.of i)));have b{G}(h:G:=by
 obtain⟨aD,aK⟩:=xH (nO (some b2) ((f,E),C));have b{G}(h:G:=by
 have b{G}(h:G:=by
 have aC:=Y (fQ ap ba);have aY:o≠H:=λm=>by have:=fI ba;omega
 clear F X ad aW bx bq bS ba;go_enter func117,ntmps117;go_wp2_with fail;rw[<-T.out,<-W];clear W;refine WJ (H:=λwz D s=>VB M k I z am w2 f E C wz D s) (G:=?GG) (λaN=>?ways) ?rest
 case ways=>
  exact nU
 case rest=>
  have b{G}(h:G:=by
  have aG:=Y (d.fr.fR aV.out Pm);have c:=Y (d.fr.fR aC.out Pm);have bL:o≠D:=λm=>by
   have ad:=d.vb;have ak:=fI aC.out;omega
  obtain⟨be,aX,a7,bG,bo,bu,bF⟩:=Qb (d.v);obtain⟨bj,bm,bn,bv,bA,bC,bh⟩:=Qb c.out;obtain⟨aO,bI,a6,a8,_,bc⟩:=fN aG.out
  by_cases B:E=.no
  ·subst B;have t:s=QW:=d.er;subst t;go_wp2_with fail;have ax:=Tn c.out aQ (O3 f.k) (O3 f.n) (Pj f.s);have aI:=lq c.out (O3 f.k) (O3 f.n) (Pj f.s);refine Vm (v:=QW) ?_;have a:aD=((.no,some f),C):=O4 aK;rw[a];refine⟨⟨_,rfl,rfl⟩,d.ms.ie ax Pm,?_,aI⟩;refine⟨ac.below.trans ax.below,λN e m O B ba=>?_⟩;have ad:=ac.rest N e m O B P7;have j:N≠o:=λm=>ba (by rw[m]);rw[gV _ _ _ _ j,gV _ _ _ _ j,gV _ _ _ _ j];exact ad
  ·obtain⟨ax,aI,t⟩:=d.er.XO B ay;subst t;have a:aD=((E,some b2),C):=by
    rw[aK.out];exact jZ
   have j:=Y a;clear B a;go_wp2_with fail;refine Vm (v:=.iface ax aI) ?_;rw[j.out];exact⟨⟨_,rfl,d.er⟩,d.ms,ac.up,c.out⟩):=O6 h;exact tA):=O6 h;exact rQ):=O6 h;exact r2):=O6 h;exact pu):=O6 h;exact nw):=O6 h;exact nu):=O6 h;exact oK
def ae6 (o:Option Addr)(ad:Ux M k I z am g (Pg p 0) A (U.v (Pg p 0) A g))(bT:Bs M k I z am)(bS:SY M)(bq:Sz bD g)(bu:∀ f C,U.v (Pg p 0) A g=((f,.no),C)->Sz bD C)(ch:bD+1<1000000000) :
  Pq 108 #[O5 k,O5 u.p,Qy A o] w (gX M k I z am w (oY U p A g)):=by
 have aS:=ah.lt;have b{G}(h:G:=by
 have b6:w.heap.size<=W:=O9;have b{G}(h:G:=by
 have b4:=Y F;have bM:=Y (fN F);have b{G}(h:G:=by
 obtain⟨bo,bv,cJ,a6,be,cf,_⟩:=aJ.Zf (a:=0) O9;rw[ai] at a6;have cr:=aJ.cells.1;obtain⟨aj,br⟩:=xE u.p;obtain⟨cM,bI⟩:=xH bo.p;have cq:=cf.kp (Kp.of ap);obtain⟨aW,bc⟩:=xE p.2.tx;obtain⟨aQ,bn⟩:=xE (g.M.find l aW);have a1:Hid (∀ L,Pn w2 L->Pq 195 #[O5 k,O3 l,Pj aW] L λm w'=>m=PK (O3 aQ)/\Pn L w'):=λL i=>by
  obtain⟨_,_,_,_,a⟩:=bf.fH i;rw[bn];exact uH a.hh bq.go.ok bq.go.sm O9 l aW
 have b{G}(h:G:=by
 obtain⟨aY,bh⟩:=xE (oY U p ⟨l,q,r⟩ g);rw[<-bh];have aK:Hid (aY=match (((f,E),C):(Va × Er) × St) with
  | ((v,.no),C)=>YV aQ aW v r C
  | ((_,m),C)=>(m,C)):=by
  show _=_
  rw[bh];unfold oY;rw[X,bn,bc]
 have bY:=Y X;have cy:=Y bu;rw[X] at ad;have a7:=aZ.cells.2.2.1;rw[<-bc] at a7;have bm:=aZ.gw;have ci:=aZ.tC (PN ap a6);rw[<-br] at a6 b0 cr a7 bm ⊢;rw[<-bI.out] at be;have b7:=Y (PN ap a6);have cp:=Y (PN ap be);have bC:=Y a7;have ck:=Y bm;clear F bh X br b6 be bu bc bn a7 bm ci;go_enter func108,ntmps108;go_wp2_with fail;rw[<-aV.out,<-aD];clear aD;refine UC 9 λa=>?_;refine iy ?_;refine Kt ?_;refine uk 8 bC.out a ?_;refine Rl 9 λK c=>?_
 go_simp;refine rR ?_;rintro m T ⟨rfl,b1⟩;refine ko c ?_;clear c K;have aC:Pn w2 T:=a.trans b1;have bB:=bf.fH aC;have bj:=Y (fQ aC b4.out);have c9:=Y (fN bj.out);have b3:=bE.trans (P8.of (L:=none) aC (P6 bO));have bG:=Y (PN aC b7.out);have bR:=Y (PN aC cp.out);have cA:=Y (PN aC bC.out);have cz:Hid (∃ e,T.heap[aj]? = some (PZ e 40)):=by obtain⟨e,bU⟩:=O4 ck;exact⟨e,fQ aC bU⟩
 have bV:=bB.lt;have cB:=fI bj.out;have cO:aj<T.heap.size:=fV bG.out;have cG:bv<T.heap.size:=fV bR.out;have aF:=Y (λL (i:Pn T L)=>ad L bo o (bB.fH i) ((cq.kp (Kp.of aC)).kp (Kp.of i)));rw[<-bI.out] at aF;refine uz 10 (O3 aQ) ?_;refine TQ ?_ _;clear a6;go_simp;go_wp2_with fail;refine WJ (H:=λwz D s=>VB M k I z am T f E C wz D s) (G:=?GG) (λaN=>?ways) ?rest
 case ways=>
  refine UC 8 λa=>?_;refine kI ?_;refine uk 4 bG.out a ?_;refine up 5 bv 0 a ?_;exact Eh
 case rest=>
  rintro wz D s d;have cg:=d.ms.lt;have ac:P8 none k w wz:=b3.trans d.fr;have bx:=Y (d.fr.fR bj.out Pm)
  by_cases B:E=.no
  ·subst B;have ax:s=QW:=d.er;subst ax;have bW:=O4 cy f C bY.out;obtain⟨bL,aI⟩:=xE (YV aQ aW f r C);have H:aY=bL:=by rw[aK.out,aI]
   have bZ:=Y H;have cl:Hid (∀ L,Pn wz L->Pq 197 #[O5 k,O3 aQ,Pj aW,vA f,Pv r] L (gX M k I z am L bL)):=λL i=>by
    rw[aI];exact C3 bT bS (d.ms.fH i) bW ch aQ aW f r
   have b9:=Y (fX d.v);have cx:=Y (fN bx.out);have bF:=Y (d.fr.Vo.UG cA.out cz.out (fM rfl));have cK:=fV bF.out;have cL:=fI bx.out;have cC:=fI d.v;clear aI H;go_wp2_with fail;refine UC 9 λa=>?_;refine up 0 k 0 a ?_;refine uh 1 (O3 aQ) (a) ?_;refine up 2 aj 0 a ?_;refine up 3 aj 0 a ?_;refine up 4 aj 1 a ?_;refine uk 5 bF.out a ?_;refine jN 6 b9.out a ?_;refine up 7 W 2 a ?_;refine uk 8 (cx.out.2.2.1) a ?_;refine Rl 9 λK c=>?_;go_simp
   refine cm (O4 cl _ a) ?_;rintro m wf ⟨⟨s,rfl,aG⟩,cw,cu⟩;refine ko c ?_;clear c K;have cn:=ac.trans ((P8.of (L:=none) a (P6 cg)).trans cu);refine uz 10 s ?_;refine TQ ?_ _;go_simp;go_wp2_with fail;refine Vm (v:=s) ?_;rw[bZ.out];exact⟨⟨_,rfl,aG⟩,cw,cn⟩
  ·exact Af):=O6 h;exact pu):=O6 h;exact nu):=O6 h;exact oK):=O6 h;exact m9
