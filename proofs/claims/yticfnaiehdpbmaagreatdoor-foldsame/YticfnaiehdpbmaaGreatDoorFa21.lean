import Derived.Test.YticfnaiehdpbmaaGreatDoorRows
import Derived.LaidMore
import Derived.Test.YticfnaiehdpbmaaGreatDoorFa19
import Derived.Test.YticfnaiehdpbmaaGreatDoorFa18
import Derived.Lib.Builder
import Derived.Lib.OthersKept
import Derived.Lib.AppendStr
import Derived.Lib.UnsafeStr
set_option maxRecDepth 100000
set_option maxHeartbeats 0
set_option linter.all false
namespace Go.Proofs.YticfnaiehdpbmaaGreatDoor
open Go.RowKit Go.Proofs.Tryz
section
open Go.ChangeShapes Go.WideShapes Go.ChangeAt Go.WideMaps Go.WideElems Go.RowKit
def aLu:ownKnob Tryz.prog.godebug=none:=by kernel_rfl
def HY : Tryz.prog.globalNamed "sloppyscope/lex.words" = some 6 := by kernel_rfl
def K1 : Tryz.prog.globalNamed "sloppyscope/lex.signs" = some 2 := by kernel_rfl
def aBP:(Tryz.prog.globals[6]?).map (·.type)=some 272:=by kernel_rfl
def aBQ:(Tryz.prog.globals[2]?).map (·.type)=some 272:=by kernel_rfl
def ji:Tryz.prog.cellsOf 9=1:=by kernel_rfl
def nJ:Tryz.prog.cellsOf 272=19:=by kernel_rfl
def ZU {o:World}{fuel:Nat}{c:List Value}{w:List MemPlace}(b:List (List UInt8))(s:b.length=19)
  (h:DataW.trod (λ_=>()) Tryz.prog o 0 (λ_=>true) false fuel 272 c=some (.agg (b.map λd=>.lit (.string d)),w)):c=(b.map ofBytes).map Value.string:=by
 obtain⟨n,A,rfl,f,l,i,t⟩:=DataW.trod_array Tryz.underlying272 h;simp only[io,iW] at f;rw[nJ] at l;refine List.ext_getElem (by simp[s,l]) λa u z=>?_;have r:a<19:=by omega
 have g:=t a r;rw[ji,Nat.mul_one,ga (by omega)] at g;obtain⟨e,q,p,_⟩:=DataW.trod_string zaldl g;have j:(n.map (·.1))[a]'(by simp[i];omega)=.lit (.string (b[a]'(by omega))):=by
  have k:(n.map (·.1))[a]? =(b.map λd=>(DataW.lit (.string d):DataW Unit))[a]?:=by rw[f.1]
  rw[ga (by simp[i];omega),ga (by simp;omega)] at k
  simpa using k
 rw[j6,p] at j;have v:e.data.toList=b[a]'(by omega):=by simpa using j
 have m:(c.drop a)[0]? = some (.string e):=by
  have:((c.drop a).take 1)[0]? = some (.string e):=by rw[q];rfl
  simpa using this
 rw[List.getElem?_drop,iY,ga u] at m;rw[gQ m];simp[C9 v]
def Wv {c:World}{f:String}{e:Nat}{d:Array Value}(g:Tryz.prog.globalNamed f=some e)(h:c.var? Tryz.prog f=some d):∃ b a,c.heap[e]? = some (.cells d b a):=by
 simp only[World.var?,g,m5] at h
 split at h
 ·rename_i j b a i
  cases h;exact⟨b,a,i⟩
 ·
  cases h
end
section
open Go.ChangeShapes Go.WideShapes Go.ChangeAt Go.WideMaps Go.WideElems Go.RowKit
def JB : Tryz.prog.globalNamed "sloppyscope/tree.signs" = some 3 := by kernel_rfl
def Hs : Tryz.prog.globalNamed "sloppyscope/tree.heads" = some 4 := by kernel_rfl
def axn:(Tryz.prog.globals[3]?).map (·.type)=some 276:=by kernel_rfl
def axo:(Tryz.prog.globals[4]?).map (·.type)=some 285:=by kernel_rfl
def Bv:Tryz.prog.cellsOf 275=4:=by kernel_rfl
def xx:Tryz.prog.cellsOf 3=1:=by kernel_rfl
def atl:Tryz.prog.cellsOf 276=56:=by kernel_rfl
def Jb:Tryz.prog.cellsOf 284=2:=by kernel_rfl
def Q6:Tryz.prog.cellsOf 285=16:=by kernel_rfl
def ZE (a:Nat)(k:0<a):∀ (b:List (List Value)) (c:List Value),(∀ j ∈ b,j.length=a)->c.length=b.length * a->(∀ d (g:d<b.length),(c.drop (d * a)).take a=b[d])->c=b.flatten
 | [],c,_,e,_=>by
  have:c.length=0:=by simpa using e
  simpa using this
 | j::b,c,h,e,f=>by
  have i:=f 0 (by simp);simp only[i1,List.drop_zero,List.getElem_cons_zero] at i;have m:=ZE a k b (c.drop a) (λx l=>h x (gE _ l)) (by rw[List.length_drop,e,gL,iE];omega) (λd g=>by
   have:=f (d+1) (by simpa using g);rw[List.getElem_cons_succ] at this;rw[List.drop_drop,show a+d * a=(d+1) * a by rw[iE];omega]
   exact this)
  rw[List.flatten_cons,<-i,<-m,j3]
section
variable {b:World} {fuel:Nat} {a:List Value}
include b fuel a
def rS {c:Int}{f:List MemPlace}(h:DataW.trod (λ_=>()) Tryz.prog b 0 (λ_=>true) false fuel 3 a=some (.lit (.int .i64 c),f)):a=[.int .i64 c]:=by
 obtain⟨g,e,d,_⟩:=DataW.trod_int zalev h;simp only[io,DataW.lit.injEq,Lit.int.injEq,kC] at d;rw[e,<-d.1]
def iP {d:List UInt8}{f:List MemPlace}(h:DataW.trod (λ_=>()) Tryz.prog b 0 (λ_=>true) false fuel 9 a=some (.lit (.string d),f)):a=[.string (ofBytes d)]:=by
 obtain⟨g,e,c,_⟩:=DataW.trod_string zaldl h;simp only[io,DataW.lit.injEq,Lit.string.injEq] at c;rw[e,C9 c.1.symm]
end
def O2 {a:List Value}(k:a.length=4){c e f g:Value}(i:(a.drop 0).take 1=[c])(j:(a.drop 1).take 1=[e])(b:(a.drop 2).take 1=[f])(d:(a.drop 3).take 1=[g]):a=[c,e,f,g]:=by
 match a,k with
 | [x,y,l,m],_=>simp at i j b d;rw[i,j,b,d]
def n9 {a:List Value}(f:a.length=2){b c:Value}(d:(a.drop 0).take 1=[b])(e:(a.drop 1).take 1=[c]):a=[b,c]:=by
 match a,f with
 | [x,y],_=>simp at d e;rw[d,e]
def zt (d:List UInt8)(a b c:Int):DataW Unit:=.agg [.lit (.string d),.lit (.int .i64 a),.lit (.int .i64 b),.lit (.int .i64 c)]
def zS (b:List UInt8)(a:Int):DataW Unit:=.agg [.lit (.string b),.lit (.int .i64 a)]
def XP {H:Type}{c:List (DataW H × List MemPlace)}{d:List (DataW H)}(h:d=c.map (·.1))(b:Nat)(f:DataW H)(a:d[b]? = some f):∃ g,c[b]? = some (f,g):=by
 subst h;rw[i6] at a
 cases e:c[b]? with
 | none=>rw[e] at a;cases a
 | some x=>
  rw[e] at a;exact⟨x.2,by rw[<-gQ a]⟩
section
variable {e:World} {fuel:Nat} {a:List Value} {c:List UInt8}
include e fuel a c
def aH5 {f g j:Int}{v:List MemPlace}(h:DataW.trod (λ_=>()) Tryz.prog e 0 (λ_=>true) false fuel 275 a=some (zt c f g j,v)) :
  a=[.string (ofBytes c),.int .i64 f,.int .i64 g,.int .i64 j]:=by
 obtain⟨F,E,_,b,q,z,d⟩:=mz Tryz.underlying275 h;simp only[io,zt,iW] at b;rw[Bv] at q;obtain⟨C,u⟩:=XP b.1 0 _ rfl;obtain⟨B,s⟩:=XP b.1 1 _ rfl;obtain⟨A,t⟩:=XP b.1 2 _ rfl;obtain⟨D,w⟩:=XP b.1 3 _ rfl;have r:=d 0 _ rfl;have n:=d 1 _ rfl;have o:=d 2 _ rfl;have p:=d 3 _ rfl;rw[u] at r;rw[s] at n;rw[t] at o;rw[w] at p;have l:(a.drop 0).take (Tryz.prog.cellsOf 9)=_:=iP r
 have i:(a.drop 1).take (Tryz.prog.cellsOf 3)=_:=rS n;have k:(a.drop 2).take (Tryz.prog.cellsOf 3)=_:=rS o;have m:(a.drop 3).take (Tryz.prog.cellsOf 3)=_:=rS p;rw[ji] at l;rw[xx] at i k m;exact O2 q l i k m
def aH6 {d:Int}{o:List MemPlace}(h:DataW.trod (λ_=>()) Tryz.prog e 0 (λ_=>true) false fuel 284 a=some (zS c d,o)) :
  a=[.string (ofBytes c),.int .i64 d]:=by
 obtain⟨t,s,_,b,k,p,j⟩:=mz Tryz.underlying284 h;simp only[io,zS,iW] at b;rw[Jb] at k;obtain⟨r,n⟩:=XP b.1 0 _ rfl;obtain⟨q,m⟩:=XP b.1 1 _ rfl;have l:=j 0 _ rfl;have i:=j 1 _ rfl;rw[n] at l;rw[m] at i;have g:(a.drop 0).take (Tryz.prog.cellsOf 9)=_:=iP l;have f:(a.drop 1).take (Tryz.prog.cellsOf 3)=_:=rS i;rw[ji] at g;rw[xx] at f;exact n9 k g f
end
def E8:List (List UInt8 × Int × Int × Int):=ZH.map λa=>(a.tx.data.toList,a.kd,a.parts,a.str)
def GD:List (List UInt8 × Int):=hv.map λa=>(a.1.data.toList,a.2)
section
variable {g:World} {fuel:Nat} {d:List Value} {i:List MemPlace}
include g fuel d i
def VM (h:DataW.trod (λ_=>()) Tryz.prog g 0 (λ_=>true) false fuel 276 d=some (.agg (E8.map λa=>zt a.1 a.2.1 a.2.2.1 a.2.2.2),i)):d=U2.toList:=by
 obtain⟨r,q,_,f,k,p,m⟩:=DataW.trod_array Tryz.underlying276 h;simp only[io,iW] at f;rw[atl] at k;have n:d=(E8.map λa=>[Value.string (ofBytes a.1),.int .i64 a.2.1,.int .i64 a.2.2.1,.int .i64 a.2.2.2]).flatten:=by
  refine ZE 4 (by decide) _ d ?_ (by rw[k];rfl) ?_
  ·intro c b;obtain⟨a,_,rfl⟩:=hy.1 b;rfl
  ·intro e c;rw[gu] at c;have l:e<14:=c;have b:=m e l;rw[Bv] at b;have j{G}(h:G:=by
   rw[aH5 b,j6]):=O6 h;exact yS
 rw[n];rfl
def R5 (h:DataW.trod (λ_=>()) Tryz.prog g 0 (λ_=>true) false fuel 285 d=some (.agg (GD.map λa=>zS a.1 a.2),i)):d=Vp.toList:=by
 obtain⟨r,q,_,f,k,p,m⟩:=DataW.trod_array Tryz.underlying285 h;simp only[io,iW] at f;rw[Q6] at k;have n:d=(GD.map λa=>[Value.string (ofBytes a.1),.int .i64 a.2]).flatten:=by
  refine ZE 2 (by decide) _ d ?_ (by rw[k];rfl) ?_
  ·intro c b;obtain⟨a,_,rfl⟩:=hy.1 b;rfl
  ·intro e c;rw[gu] at c;have l:e<8:=c;have b:=m e l;rw[Jb] at b;have j{G}(h:G:=by
   rw[aH6 b,j6]):=O6 h;exact yS
 rw[n];rfl
end
end
namespace Hp
section
open Go.RowKit Go.Extern.Stop Go.Stop Go.Extern
def OT {b:Pe}{a:Nat}{f:TypeId}{c g:Px}(d e:Obj)(i:b.heap[a]? = some (PZ #[g] f))(j:b.cell? (O7 a 0)=some g)(k:a<b.heap.size) :
  (((b.setCell (O7 a 0) c).alloc d).alloc e).heap[a]? = some (PZ #[c] f)/\Below a b (((b.setCell (O7 a 0) c).alloc d).alloc e):=
 ⟨fY (fY (hk b a 0 _ f c i)),(Bd d e j k).2⟩
def auO (e:Nat)(b c:Nat)(a:Pe)(n:a.heap[b]? = some (PZ #[Ry] 122))(g:a.cell? (O7 b 0)=some Ry)(j:a.frozen? (O7 b 0)=false)(k:a.cell? (O7 c 0)=some (PL b 0))(i:b<a.heap.size)(m:c<a.heap.size) :
  Pq 65 #[.iface 122 (PL e 0),.iface 123 (PL b 0),.agg #[PL 13 123,PL c 0,.int .u64 150],.iface 215 (.agg #[PL 13 122])] a λl f=>
   l=PK (Pv true)/\f.heap[b]? = some (PZ #[PL e 0] 122)/\Below b a f:=by
 have d{G}(h:G:=by
 have o:=R9.an3;have p:=R9.aaA;have q:=R9.M5;have r:=R9.Md (O7 c 0) (O7 b 0) (a.alloc (.cells #[PL 13 123,PL c 0,.int .u64 150] 130)) (by rw[hb _ _ _ m];exact k)
 have s:=R9.ay3 (O7 b 0) (O7 (a.heap.size+1) 0) (O7 e 0) Ry ((a.alloc (.cells #[PL 13 123,PL c 0,.int .u64 150] 130)).alloc (.cells #[PL e 0] 122))
  (by rw[ip _ _ _ _ P7];rfl) (by rw[hb _ _ _ RQ,hb _ _ _ i];exact g) (by rw[jw _ _ _ RQ,jw _ _ _ RQ];exact j)
 have d{G}(h:G:=by
 exact⟨rfl,OT _ _ n g i⟩):=O6 h;exact t1):=O6 h;exact uA
def Fj (r:Nat)(b:Nat)(a:Pe)(z:a.heap[b]? = some (PZ #[Ry] 122))(s:a.cell? (O7 b 0)=some Ry)(q:a.frozen? (O7 b 0)=false)(k:b<a.heap.size)(n:a.cell? (O7 0 0)=some (.iface 215 (.agg #[PL 13 31]))) :
  Pq 32 #[.iface 122 (PL r 0),.iface 123 (PL b 0)] a λp v=>p=PK (Pv true)/\v.heap[b]? = some (PZ #[PL r 0] 122)/\Below b a v:=by
 have f{G}(h:G:=by
 have w:c.heap[b]? = some (PZ #[Ry] 122):=by rw[e];exact fY (fY z)
 have f{G}(h:G:=by
 have d:Hid _:=auO r b a.heap.size c w m g i O9 O9;rw[e] at d l;clear u g m w z i e c;exact CZ):=O6 h;exact y7):=O6 h;exact vW
end
section
variable {w:Pe}
abbrev mn (b a:Px)(c d:Int)(x:Py):Px:=.agg #[b,O3 c,Pj x,O3 d,a]
def hK {a:Nat}{x y b d e:Px}{f:TypeId}(h:w.heap[a]? = some (PZ #[x,y,b,d,e] f)):w.cell? (O7 a 0)=some x/\w.cell? (O7 a 1)=some y/\w.cell? (O7 a 2)=some b/\w.cell? (O7 a 3)=some d/\w.cell? (O7 a 4)=some e/\(∀ c,w.frozen? (O7 a c)=false)/\a<w.heap.size:=by
 refine⟨?_,?_,?_,?_,?_,λc=>?_,fI h⟩
 ·rw[cell_of h];rfl
 ·rw[cell_of h];rfl
 ·rw[cell_of h];rfl
 ·rw[cell_of h];rfl
 ·rw[cell_of h];rfl
 ·simp[World.frozen?,h]
def avV {d f:Nat}(a:List Py)(l v:Px)(w:Pe)(ad:SQ d w l a)(ak:SQ f w v a)(A:a.length<=1000000000) :
  Pq 16 #[l,v] w λm o=>m=PK (Pv true)/\Pn w o:=by
 obtain⟨ua,uc,rfl⟩:=PW ad;obtain⟨F,p,rfl⟩:=PW ak;go_enter func16,ntmps16;go_wp2_with fail
 go_loopw [5] (λa8 wr=>∃ j:Nat,j<=a.length/\a8=O3 j/\Pn w wr) (λa8 _=>a.length - (intOf a8).toNat)
 case atStart=>exact⟨0,f3 _,rfl,RP⟩
 case round=>
  obtain⟨j,s,rfl,O⟩:=hrel
  by_cases g:j<a.length
  ·obtain⟨i,E,B,C,_,r⟩:=Vg (SQ.fH ad O) j g;have b{G}(h:G:=by
   obtain⟨k,t,B,D,_,q⟩:=Vg (SQ.fH ak O) j g;have b{G}(h:G:=by
   have z:(j:Int)<(a.length:Int):=O9
   generalize a[j]=x at r q
   go_wp2_with fail;refine wp_region_held (S:=λL=>L=wr.drew) Qs ?_;refine mK ?_;refine wh 0 (.slice (some (O7 i 0)) a.length uc) rfl ?_;refine wh 1 (O3 j) rfl ?_;refine wh 2 (PL i j) rfl ?_;refine wh 3 (Pj x) rfl ?_ (bi:=fM ⟨by kernel_rfl,λL c=>by cases c;go_simp⟩)
   refine wh 4 (.slice (some (O7 k 0)) a.length p) rfl ?_;refine wh 5 (O3 j) rfl ?_;refine wh 6 (PL k j) rfl ?_;refine wh 7 (Pj x) rfl ?_ (bi:=fM ⟨by kernel_rfl,λL c=>by cases c;go_simp⟩)
   refine wh 8 (Pv false) rfl ?_;refine YN ?_;go_wp2
   go_roundw
   case rel=>exact⟨j+1,by omega,by go_num,O.drew⟩
   case measure=>simp[intOf];omega):=O6 h;exact UM):=O6 h;exact UM
  ·have b:j=a.length:=O9;subst b;go_wp2;go_ret;exact⟨rfl,O⟩
end
end Hp
def Open.gx {R a:Nat}{d e:Pe}{i:Tr}{c:Nat}{j:Px}{g:List Nat}(h:Open a d i c j g)(b:Ap R d.heap.size d e)(f:R<a):Open a e i c j g:=
 ⟨h.low,by rw[b.block c (fI h.gw) (by have:=h.low;omega)];exact h.gw,Rt (a:=λk=>a<=k) (Vh.Xe b f λ_ h=>h) (λk l=>(QD h.row k l).2) h.row,h.own,PE.fH (Vh.Xe b f λ_ h=>h.1) _ _ h.fJ⟩
def Open.qA {a:Nat}{c d e:Pe}{n:Tr}{b:Nat}{f o:Px}{m:List Nat}(h:Open a c n b f m)(i:Below a c d)(j:a<=d.heap.size)(k:d.grownBy e f.ownBlock):Below a c (e.setCell (O7 b 3) o):=
 (i.grown k j (λl g=>(QD h.row l g).2)).setCell (p:=(O7 b 3)) h.low _
def Open.push {b:Nat}{g i:Pe}{a x:Tr}{e m c l d:Nat}{f:Px}{k:List Nat}(h:Open b g a e f k)(n:PE (λj=>b<=j/\j≠e/\f.ownBlock≠some j) g (a.fJ++[x]) (k++[m]))(o:d=a.fJ.length+1)
  (r:i.ownsRow b 22 1 (.slice (some (O7 c 0)) d l) d (k.map O5++[O5 m])) (p:g.grownBy i f.ownBlock) (q:f.ownBlock=some c\/c=g.heap.size) :
  EV b (i.setCell (O7 e 3) (.slice (some (O7 c 0)) d l)) (.mk a.kd a.tx a.n (a.fJ++[x])) (O5 e):=
 wQ h.low h.gw h.own n (by rw[gM];exact r) (by rw[o];simp[PE.length _ _ h.fJ]) p q
def Open.kb {R c:Nat}{b i:Pe}{f:Tr}{d:Nat}{g:Px}{e:List Nat}(h:Open c b f d g e)(j:Ap R b.heap.size b i)(k:R<c):PE (λa=>(c<=a/\a≠d/\g.ownBlock≠some a)/\a<b.heap.size) i f.fJ e:=
 PE.fH (Vh.Xe j k λ_ h=>h.1.1) _ _ (PE.mono (λ_ a l=>⟨a,l⟩) _ _ h.fJ)
def Open.azk {c Z:Nat}{b i:Pe}{f:Tr}{d:Nat}{g:Px}{e:List Nat}(h:Open c b f d g e)(q:c<=b.heap.size)(s:b.heap.size<=Z){k:List Tr}{j:List Nat}(n:PE (λa=>Z<=a) i k j)(l:PE (λa=>(c<=a/\a≠d/\g.ownBlock≠some a)/\a<b.heap.size) i f.fJ e) :
  PE (λa=>c<=a/\a≠d/\g.ownBlock≠some a) i (f.fJ++k) (e++j):=
 PE.append (M:=b.heap.size) _ _ (PE.mono (λa m _=>by
  have r:Z<=a:=m;have p:=fI h.gw;exact⟨⟨by omega,by omega,λo=>by have:=(QD h.row a o).1;omega⟩,by omega⟩) _ _ n) l
def Open.alloc {b:Nat}{a:Pe}{e:Tr}{c:Nat}{f:Px}{d:List Nat}(h:Open b a e c f d)(j:Obj):Open b (a.alloc j) e c f d:=
 ⟨h.low,by rw[gd _ _ _ (fI h.gw)];exact h.gw,h.row.alloc _,h.own,PE.fH (λg _ i=>gd a _ g i) _ _ h.fJ⟩
def PE.alloc {b:Nat->Prop}{a:Pe}{d:List Tr}{c:List Nat}(h:PE b a d c)(g:Obj):PE b (a.alloc g) d c:=PE.fH (λe _ f=>gd a _ e f) _ _ h
def Open.aD8 {b:Nat}{g i:Pe}{a x:Tr}{e l c m d:Nat}{f:Px}{k:List Nat}(h:Open b g a e f k)(n:PE (λj=>b<=j/\j≠e/\f.ownBlock≠some j) g (a.fJ++[x]) (k++[l]))(o:d=a.fJ.length+1)
  (r:i.ownsRow b 22 1 (.slice (some (O7 c 0)) d m) d (k.map O5++[O5 l])) (p:(g.alloc (.cells #[O5 l] 22)).grownBy i f.ownBlock) (q:f.ownBlock=some c\/c=g.heap.size+1) :
  EV b (i.setCell (O7 e 3) (.slice (some (O7 c 0)) d m)) (.mk a.kd a.tx a.n (a.fJ++[x])) (O5 e):=
 (h.alloc _).push (PE.alloc n _) o r p (q.imp id λj=>by simp[j])
def NK (a:Pe)(b c:Int)(d:Py):Open a.heap.size (a.alloc (Qc b d c Q8)) (.mk b d c []) a.heap.size Q8 []:=
 ⟨g9 _,Ph _ _,⟨rfl,fM ⟨rfl,rfl⟩⟩,by simp[Value.ownBlock],PE.nil⟩
def Open.drew {b:Nat}{a:Pe}{e:Tr}{c:Nat}{f:Px}{d:List Nat}(h:Open b a e c f d):Open b a.drew e c f d:=
 ⟨h.low,h.gw,Rt (e:=a) (c:=a.drew) (a:=λ_=>True) (λ_ _ _=>rfl) (λ_ _=>trivial) h.row,h.own,PE.fH (w:=a) (w':=a.drew) (λ_ _ _=>rfl) _ _ h.fJ⟩
namespace Hp
def RY (a:Tr):Bool:=decide (17<=a.kd/\a.kd<=22)
def lK (a:Tr):Py:=if a.kd=17 then UN a.n else if a.kd=18 then a.tx else if a.kd=19 then n8 else if a.kd=20 then Yk else if a.kd=21 then qa else QX
def k8 (a:Tr):Bool:=if a.kd=17 then a.n != 0 else if a.kd=18 then !decide (a.tx=O8) else decide (a.kd=19)
def tT (a:Tr):Py:=if a.kd=17 then vv else if a.kd=18 then sl else if a.kd=19 then XV else if a.kd=20 then XV else if a.kd=21 then Xy else QX
def ZI (a:Bool):Tr:=.mk (if a then 19 else 20) O8 0 []
def nZ (a:Int):Option Tr:=if a<0\/1000000000<a then none else some (.mk 17 O8 a [])
def nj (a:Py):Option Tr:=if 500<a.size then none else some (.mk 18 a 0 [])
def ny (b:Int)(a:Tr):Option Tr:=if RY a then (if b=32 then some (ZI (!k8 a)) else nj (tT a)) else none
def my (c:Int)(a b:Tr):Option Tr:=if RY a then (if k8 a=decide (c=25) then some a else some b) else none
def pG (c a b:Int):Option Tr:=if c=28 then some (ZI (decide (a<b))) else if c=29 then nZ (a+b) else if c=30 then nZ (a - b) else nZ (a * b)
def lZ (c:Int)(a b:Tr):Option Tr:=
 if (RY a&&RY b)=true then
  if c=27 then some (ZI (decide (a.kd=b.kd/\a.n=b.n/\a.tx=b.tx)))
  else if a.kd=17/\b.kd=17 then pG c a.n b.n
  else if c=29/\(a.kd=18\/b.kd=18) then nj (XI (lK a) (lK b))
  else if c=28/\a.kd=18/\b.kd=18 then some (ZI (decide (a.tx.data.toList<b.tx.data.toList)))
  else none
 else none
def hY (a:Tr):Option Tr:=match a.fJ with
 | [b]=>if a.kd=32\/a.kd=33 then ny a.kd b else none
 | [b,c]=>if a.kd=25\/a.kd=26 then my a.kd b c else if 27<=a.kd/\a.kd<=31 then lZ a.kd b c else none
 | _=>none
abbrev nn:Py:=⟨#[117,115,101,32,115,116,114,105,99,116]⟩
def nQ (a:Tr):Bool:=if a.kd=18 then !decide (a.tx=nn) else !(decide (a.kd=23)||decide (a.kd=36))
def ld (a:Tr):Tr:=match hY a with
 | some b=>if nQ b then b else a
 | none=>a
mutual
def PG:Tr->Tr
 | .mk a d c b=>ld (.mk a d c (Xi b))
def Xi:List Tr->List Tr
 | []=>[]
 | a::b=>PG a::Xi b
end
def Z9:∀ a:List Tr,Xi a=a.map PG
 | []=>by rw[Xi];rfl
 | b::a=>by rw[Xi,Z9 a];rfl
def l7 (b:Tr):Prop:=(∃ a,b=ZI a)\/(∃ a,0<=a/\a<=1000000000/\b=.mk 17 O8 a [])\/∃ c:Py,c.size<=500/\b=.mk 18 c 0 []
def A7 {a:Py}{b:Tr}(h:nj a=some b):l7 b:=by
 unfold nj at h
 split at h
 ·
  cases h
 ·
  cases h;exact .inr (.inr ⟨a,by omega,rfl⟩)
def Hl {a:Int}{b:Tr}(h:nZ a=some b):l7 b:=by
 unfold nZ at h
 split at h
 ·
  cases h
 ·
  cases h;exact .inr (.inl ⟨a,by omega,by omega,rfl⟩)
def NS {b c d:Int}{a:Tr}(h:pG b c d=some a):l7 a:=by
 unfold pG at h
 split at h
 ·
  cases h;exact .inl ⟨_,rfl⟩
 ·split at h
  ·exact Hl h
  ·split at h <;> exact Hl h
def avD {c:Int}{b a:Tr}(h:ny c b=some a):l7 a:=by
 unfold ny at h
 split at h
 ·split at h
  ·
   cases h;exact .inl ⟨_,rfl⟩
  ·exact A7 h
 ·
  cases h
def avE {d:Int}{b c a:Tr}(h:lZ d b c=some a):l7 a:=by
 unfold lZ at h
 split at h
 ·split at h
  ·
   cases h;exact .inl ⟨_,rfl⟩
  ·split at h
   ·exact NS h
   ·split at h
    ·exact A7 h
    ·split at h
     ·
      cases h;exact .inl ⟨_,rfl⟩
     ·
      cases h
 ·
  cases h
def TC {d:Int}{b c a:Tr}(h:my d b c=some a):a=b\/a=c:=by
 unfold my at h
 split at h
 ·split at h
  ·
   cases h;exact .inl rfl
  ·
   cases h;exact .inr rfl
 ·
  cases h
def ut {a b:Tr}(h:hY a=some b):(25<=a.kd/\a.kd<=33)/\(l7 b\/b ∈ a.fJ):=by
 unfold hY at h
 split at h
 ·rename_i d c
  split at h
  ·exact⟨by omega,.inl (avD h)⟩
  ·
   cases h
 ·rename_i d e c
  split at h
  ·refine⟨by omega,.inr ?_⟩;rw[c]
   rcases TC h with rfl|rfl <;> simp
  ·split at h
   ·exact⟨by omega,.inl (avE h)⟩
   ·
    cases h
 ·
  cases h
def zO {a:Tr}(h:¬ (25<=a.kd/\a.kd<=33)):ld a=a:=by
 unfold ld
 cases b:hY a with
 | none=>rfl
 | some c=>exact absurd (ut b).1 h
def LH (a:Tr):ld a=a\/((25<=a.kd/\a.kd<=33)/\(l7 (ld a)\/ld a ∈ a.fJ)/\hY a=some (ld a)/\nQ (ld a)=true):=by
 unfold ld
 cases c:hY a with
 | none=>exact .inl rfl
 | some d=>
  simp only
  by_cases b:nQ d=true
  ·rw[fL b];exact .inr ⟨(ut c).1,(ut c).2,rfl,b⟩
  ·rw[fK b];exact .inl rfl
def avF {a:Tr}(h:l7 a):PG a=a:=by
 rcases h with ⟨b,rfl⟩|⟨c,_,_,rfl⟩|⟨d,_,rfl⟩
 ·unfold ZI;rw[PG,Xi];exact zO (by cases b <;> simp[Tr.kd])
 all_goals
  rw[PG,Xi];exact zO (by simp[Tr.kd])
def OO {a:Tr}(h:PG a=ld a)(d:∀ b ∈ a.fJ,PG b=b):PG (ld a)=ld a:=by
 rcases LH a with c|⟨_,b|b,_⟩
 ·rw[c,h,c]
 ·exact avF b
 ·exact d _ b
def AR {b:Tr->Tr}{a:List Tr}(h:∀ c ∈ a,b c=c):a.map b=a:=(List.map_congr_left (g:=id) h).trans (List.map_id a)
mutual
def BB:∀ b:Tr,PG (PG b)=PG b
 | .mk c e d a=>by
  rw[PG];refine OO ?_ (zu a);rw[PG]
  congr 2
  rw[Z9 (Xi a)];exact AR (zu a)
def zu:∀ b:List Tr,∀ a ∈ Xi b,PG a=a
 | [],a,h=>by rw[Xi] at h;cases h
 | c::b,a,h=>by
  rw[Xi] at h
  rcases gP.1 h with rfl|h
  ·exact BB c
  ·exact zu b a h
end
def fold_eq (a:Tr):PG a=ld (.mk a.kd a.tx a.n (a.fJ.map PG)):=by
 cases a with
 | mk b e d c=>rw[PG,Z9];rfl
def Qr {a:Tr}(h:¬ (25<=a.kd/\a.kd<=33)):PG a=.mk a.kd a.tx a.n (a.fJ.map PG):=by
 rw[fold_eq];exact zO h
def qU (a:Tr):PG a=.mk a.kd a.tx a.n (a.fJ.map PG)\/((25<=a.kd/\a.kd<=33)/\(l7 (PG a)\/PG a ∈ a.fJ.map PG)/\hY (.mk a.kd a.tx a.n (a.fJ.map PG))=some (PG a)/\nQ (PG a)=true):=by
 rw[fold_eq];exact LH _
abbrev TW (a:Nat)(b:Tr):Prop:=SN Sm Sm Nb a b
def azD {a:Tr}(h:l7 a):TW 0 a:=by
 rcases h with ⟨b,rfl⟩|⟨d,_,_,rfl⟩|⟨c,_,rfl⟩
 ·exact .lit (by cases b <;> simp)
 ·exact .num ⟨by omega,by omega⟩
 ·exact .str (show c.size<=3000 by omega)
def D1 {a:Tr}(f:TW 0 (.mk a.kd a.tx a.n (a.fJ.map PG)))(e:∀ c ∈ a.fJ,TW 0 (PG c)):TW 0 (PG a):=by
 rcases qU a with b|⟨_,h|h,_⟩
 ·rw[b];exact f
 ·exact azD h
 ·obtain⟨c,d,b⟩:=hy.1 h;rw[<-b];exact e c d
def V4 {b:Nat}{c:List Tr}(h:∀ a ∈ c,TW b (PG a)):∀ a ∈ c.map PG,TW b a:=λa e=>by
 obtain⟨f,d,rfl⟩:=hy.1 e;exact h f d
def Tz {g:Nat}{i:Tr}(h:TW g i):TW g (PG i):=by
 induction h with
 | name h=>rw[Qr (by simp[Tr.kd])];exact .name h
 | str h=>rw[Qr (by simp[Tr.kd])];exact .str h
 | num h=>rw[Qr (by simp[Tr.kd])];exact .num h
 | lit b=>rw[Qr (by simp only[Tr.kd];omega)];exact .lit b
 | m0 h _ a=>rw[Qr (by simp[Tr.kd])];exact .m0 h a
 | call _ _ d a c=>rw[Qr (by simp[Tr.kd])];exact .call a (V4 c) (by rw[gu];exact d)
 | one b _ a=>exact D1 (.one b a) λe b=>by rw[gc.1 b];exact a
 | two b _ _ a c=>
  refine D1 (.two b a c) λe b=>?_
  rcases gP.1 b with rfl|b
  ·exact a
  ·rw[gc.1 b];exact c
 | @YV j k b _ _ a c=>
  rw[Qr (by simp[Tr.kd])];refine .YV ?_ a c;rw[Qr O9];exact b
 | obj _ d a=>rw[Qr (by simp[Tr.kd])];exact .obj (V4 a) (by rw[gu];exact d)
 | jP h _ _ a c=>rw[Qr (by simp[Tr.kd])];exact .jP h a c
 | gv h _ a=>rw[Qr (by simp[Tr.kd])];exact .gv h a
 | pk h=>rw[Qr (by simp[Tr.kd])];exact .pk h
 | mG _ d a=>rw[Qr (by simp[Tr.kd])];exact .mG (V4 a) (by rw[gu];exact d)
 | gw _ a=>rw[Qr (by simp[Tr.kd])];exact .gw (V4 a)
 | body h _ a=>rw[Qr (by simp[Tr.kd])];exact .body h (V4 a)
 | decl b h _ d f a=>rw[Qr (by simp only[Tr.kd];omega)];exact .decl b h (V4 a) (by rw[gu];exact d) (by rw[gu];exact f)
 | func h _ _ a c=>rw[Qr (by simp[Tr.kd])];exact .func h a c
 | YW _ a=>exact .YW a
 | l0 _ _ a c=>rw[Qr (by simp[Tr.kd])];exact .l0 a c
 | oC _ _ _ a c e=>rw[Qr (by simp[Tr.kd])];exact .oC a c e
 | loop b _ _ a c=>rw[Qr (by simp only[Tr.kd];omega)];exact .loop b a c
 | hU b _ d f a=>rw[Qr (by simp only[Tr.kd];omega)];exact .hU b (V4 a) (by rw[gu];exact d) (by rw[gu];exact f)
 | lc _ _ _ d a c e=>
  rw[Qr (by simp[Tr.kd])];simp only[Tr.kd,Tr.tx,Tr.n,Tr.fJ,gW,gM];exact .lc a (V4 c) (V4 e) (by simpa using d)
 | cat h _ a=>rw[Qr (by simp[Tr.kd])];exact .cat h a
 | fin _ a=>rw[Qr (by simp[Tr.kd])];exact .fin a
 | empty=>rw[Qr (by simp[Tr.kd])];exact .empty
 | expr _ a=>rw[Qr (by simp[Tr.kd])];exact .expr a
 | prog h _ a=>rw[Qr (by simp[Tr.kd])];exact .prog h (V4 a)
def pB {j:Nat}{g:Tr}(h:TW j g)(p:j=0\/j=2):(17<=g.kd/\g.kd<=39)/\vw g=[]:=by
 have k:∀ i:List Tr,(∀ b ∈ i,vw b=[])->YP i=[]:=λi=>by
  induction i with
  | nil=>intro _;rfl
  | cons e m l=>intro h;rw[YP,h e gf,l λb c=>h b (gE _ c)];rfl
 induction h with
 | name|str|num=>exact⟨by simp[Tr.kd],by simp[vw,YP]⟩
 | lit f=>exact⟨by simp only[Tr.kd];omega,by rcases f with rfl|rfl|rfl|rfl <;> simp[vw,YP]⟩
 | m0 _ _ a=>exact⟨by simp[Tr.kd],by simp[vw,YP,(a (.inl rfl)).2]⟩
 | call _ _ _ a d=>exact⟨by simp[Tr.kd],by simp[vw,YP,(a (.inl rfl)).2,k _ λb c=>(d b c (.inl rfl)).2]⟩
 | one f _ a=>exact⟨by simp only[Tr.kd];omega,by rcases f with rfl|rfl|rfl <;> simp[vw,YP,(a (.inl rfl)).2]⟩
 | @two m e l f _ _ a d=>
  refine⟨by simp only[Tr.kd];omega,?_⟩
  rw[sF];have o:QU (.mk m O8 0 [e,l])=false:=by simp[QU,Tr.kd];omega
  have n:ownVar (.mk m O8 0 [e,l])=[]:=by simp[ownVar,Tr.kd];omega
  rw[o,n];simp[Tr.fJ,YP,(a (.inl rfl)).2,(d (.inl rfl)).2]
 | YV _ _ _ a d=>exact⟨by simp[Tr.kd],by simp[vw,YP,(a (.inl rfl)).2,(d (.inl rfl)).2]⟩
 | obj _ _ a=>exact⟨by simp[Tr.kd],by simp[vw,k _ λb c=>(a b c (.inr rfl)).2]⟩
 | jP=>exact⟨by simp[Tr.kd],by simp[vw]⟩
 | gv _ _ a=>exact⟨by simp[Tr.kd],by simp[vw,YP,(a (.inl rfl)).2]⟩
 | _=>omega
def Bz {a:List Tr}(h:∀ b ∈ a,vw (PG b)=vw b):YP (a.map PG)=YP a:=by
 induction a with
 | nil=>rfl
 | cons c f e=>rw[gW,YP,YP,h c gf,e λb d=>h b (gE _ d)]
def Xj {a:Tr}(h:¬ (25<=a.kd/\a.kd<=33))(c:∀ b ∈ a.fJ,vw (PG b)=vw b):vw (PG a)=vw a:=by
 rw[Qr h,sF,sF a]
 show ownVar _++(if QU _ then [] else YP (a.fJ.map PG))=_
 rw[Bz c];rfl
def avG {g:Nat}{e:Tr}(h:TW g e):vw (PG e)=vw e:=by
 have d:∀ {e:Tr},TW 0 e->vw (PG e)=vw e:=λh=>by rw[(pB (Tz h) (.inl rfl)).2,(pB h (.inl rfl)).2]
 have p:∀ {e:Tr},TW 2 e->vw (PG e)=vw e:=λh=>by rw[(pB (Tz h) (.inr rfl)).2,(pB h (.inr rfl)).2]
 have k:∀ {P:Tr->Prop} {b:Tr},P b->∀ f ∈ [b],P f:=λh f j=>by rw[gc.1 j];exact h
 have l:∀ {P:Tr->Prop} {b:Tr} {o:List Tr},P b->(∀ f ∈ o,P f)->∀ f ∈ b::o,P f:=λh q f j=>by
  rcases gP.1 j with rfl|j
  ·exact h
  ·exact q f j
 induction h with
 | name h=>exact d (.name h)
 | str h=>exact d (.str h)
 | num h=>exact d (.num h)
 | lit h=>exact d (.lit h)
 | m0 h b=>exact d (.m0 h b)
 | call b c g=>exact d (.call b c g)
 | one b c=>exact d (.one b c)
 | two b c g=>exact d (.two b c g)
 | YV b c g=>exact d (.YV b c g)
 | obj b c=>exact d (.obj b c)
 | jP b c g=>exact d (.jP b c g)
 | gv b c=>exact p (.gv b c)
 | pk h=>exact d (.name h)
 | mG _ _ a=>exact Xj (by simp[Tr.kd]) a
 | gw _ a=>exact Xj (by simp[Tr.kd]) a
 | body _ _ a=>exact Xj (by simp[Tr.kd]) a
 | decl n _ _ _ _ a=>exact Xj (by simp only[Tr.kd];omega) a
 | func _ _ _ a i=>exact Xj (by simp[Tr.kd]) (l a (k i))
 | YW _ a=>exact a
 | l0 _ _ a i=>exact Xj (by simp[Tr.kd]) (l a (k i))
 | oC _ _ _ a i m=>exact Xj (by simp[Tr.kd]) (l a (l i (k m)))
 | loop n _ _ a i=>exact Xj (by simp only[Tr.kd];omega) (l a (k i))
 | hU n _ _ _ a=>exact Xj (by simp only[Tr.kd];omega) a
 | lc _ _ _ _ a i m=>exact Xj (by simp[Tr.kd]) (l a λf j=>(gU.1 j).elim (i f) (m f))
 | cat _ _ a=>exact Xj (by simp[Tr.kd]) (k a)
 | fin _ a=>exact Xj (by simp[Tr.kd]) (k a)
 | empty=>exact Xj (by simp[Tr.kd]) λ_ h=>by cases h
 | expr _ a=>exact Xj (by simp[Tr.kd]) (k a)
 | prog _ _ a=>exact Xj (by simp[Tr.kd]) a
section
variable {i:Nat} {c:Tr} (h:TW i c)
include i c h
def Yn:∀ k ∈ c.fJ,∃ j,TW j k:=by
 have f:∀ {a:Tr} {i:Nat},TW i a->∀ b ∈ [a],∃ j,TW j b:=λh b d=>by rw[gc.1 d];exact⟨_,h⟩
 have g:∀ {a:Tr} {l:List Tr} {i:Nat},TW i a->(∀ b ∈ l,∃ j,TW j b)->∀ b ∈ a::l,∃ j,TW j b:=λh n b d=>by
  rcases gP.1 d with rfl|d
  ·exact⟨_,h⟩
  ·exact n b d
 induction h with
 | name|str|num|lit|pk|empty=>intro k m;cases m
 | m0 _ a=>exact f a
 | call a e=>exact g a λb d=>⟨_,e b d⟩
 | one _ a=>exact f a
 | two _ a e=>exact g a (f e)
 | YV _ a e=>exact g a (f e)
 | obj a=>exact λb d=>⟨_,a b d⟩
 | jP _ a e=>exact g a (f e)
 | gv _ a=>exact f a
 | mG a=>exact λb d=>⟨_,a b d⟩
 | gw a=>exact λb d=>⟨_,a b d⟩
 | body _ a=>exact λb d=>⟨_,a b d⟩
 | decl _ _ a=>exact λb d=>⟨_,a b d⟩
 | func _ a e=>exact g a (f e)
 | YW _ m=>exact m
 | l0 a e=>exact g a (f e)
 | oC a e i=>exact g a (g e (f i))
 | loop _ a e=>exact g a (f e)
 | hU _ a=>exact λb d=>⟨_,a b d⟩
 | lc a e i=>exact g a λb d=>(gU.1 d).elim (λh=>⟨_,e b h⟩) λh=>⟨_,i b h⟩
 | cat _ a=>exact f a
 | fin a=>exact f a
 | expr a=>exact f a
 | prog _ a=>exact λb d=>⟨_,a b d⟩
def rM (a:25<=c.kd/\c.kd<=33):TW 0 c:=by
 have b:=h
 cases h with
 | YW h=>cases h;simp[Tr.kd] at a
 | one|two=>exact b
 | lit|decl|loop|hU=>simp only[Tr.kd] at a;omega
 | _=>simp[Tr.kd] at a
def aon:((PG c).kd=c.kd/\(PG c).tx=c.tx/\(PG c).n=c.n/\(PG c).fJ=c.fJ.map PG)\/((25<=c.kd/\c.kd<=33)/\(17<=(PG c).kd/\(PG c).kd<=39)/\(PG c).kd≠23/\(PG c).kd≠36/\(l7 (PG c)\/PG c ∈ c.fJ.map PG)):=by
 rcases qU c with a|⟨d,e,_,b⟩
 ·left;rw[a];exact⟨rfl,rfl,rfl,rfl⟩
 ·right;refine⟨d,(pB (Tz (rM h d)) (.inl rfl)).1,λa=>?_,λa=>?_,e⟩
  all_goals
   unfold nQ at b;rw[a] at b;simp at b
def he {a:Int}(f:a<=16\/a=23\/a=36\/40<=a):((PG c).kd=a↔c.kd=a)/\(c.kd=a->(PG c).tx=c.tx):=by
 rcases aon h with ⟨e,b,_⟩|⟨e,b,j,g,_⟩
 ·rw[e];exact⟨Iff.rfl,λ_=>b⟩
 ·exact⟨⟨λd=>by omega,λd=>by omega⟩,λd=>by omega⟩
end
def wx {P:Tr->Bool}{α:Type}{b:Tr->α}:∀ {c:List Tr},(∀ a ∈ c,P (PG a)=P a/\(P a=true->b (PG a)=b a))->((c.map PG).filter P).map b=(c.filter P).map b
 | [],_=>rfl
 | a::c,h=>by
  have f:=h a gf;have e:=wx (b:=b) (c:=c) λi g=>h i (gE _ g);rw[gW,ia,ia,f.1]
  by_cases d:P a=true
  ·rw[fL d,fL d,gW,gW,e,f.2 d]
  ·rw[fK d,fK d,e]
structure De (t t':Tr):Prop where
 va:Qv t'=Qv t
 fn:(Uj t').map Tr.tx=(Uj t).map Tr.tx
 le:(Qd t').map (λk=>(k.tx,k.kd))=(Qd t).map (λk=>(k.tx,k.kd))
def De.lt {b a:Tr}(h:De b a):(Qd a).map Tr.tx=(Qd b).map Tr.tx:=by
 have:=zalco (List.map Prod.fst) h.le;rw[lp,lp] at this;exact this
def De.names {c a:Tr}(h:De c a)(b:Bool):gI a b=gI c b:=by
 unfold gI;rw[h.va,h.fn,h.lt]
section
variable {f:Nat} {a:Tr} (h:TW f a)
include f a h
def Cs:SH (PG a)=SH a/\(SH a=true->(PG a).tx=a.tx):=by
 have b:=he h (a:=5) O9;unfold SH;refine⟨kl.2 (by simpa using b.1),λc=>b.2 (by simpa using c)⟩
def yP:Qk (PG a)=Qk a/\(Qk a=true->(PG a).tx=a.tx/\(PG a).kd=a.kd):=by
 have d:=he h (a:=3) O9;have c:=he h (a:=4) O9;unfold Qk;refine⟨kl.2 (by simp[d.1,c.1]),λb=>?_⟩
 rcases(by simpa using b:a.kd=3\/a.kd=4) with b|b
 ·exact⟨d.2 b,(d.1.2 b).trans b.symm⟩
 ·exact⟨c.2 b,(c.1.2 b).trans b.symm⟩
def qJ (g:¬ (25<=a.kd/\a.kd<=33)):De a (PG a):=by
 have b:=Yn h;rw[Qr g];refine⟨?_,?_,?_⟩
 ·unfold Qv
  show XY (YP (a.fJ.map PG))=_
  rw[Bz λi e=>avG (b i e).choose_spec]
 ·exact wx λd c=>Cs (b d c).choose_spec
 ·exact wx λd c=>⟨(yP (b d c).choose_spec).1,λe=>Prod.ext ((yP (b d c).choose_spec).2 e).1 ((yP (b d c).choose_spec).2 e).2⟩
end
section
variable {a b:List Tr} (h:a.map Tr.tx=b.map Tr.tx)
include a b h
def JI (x:Py):Td a x=Td b x:=by
 have d:∀ c:List Tr,Td c x=(c.map Tr.tx).any (λy=>decide (y=x)):=λc=>by unfold Td;rw[List.any_map];rfl
 rw[d,d,h]
def Ax:mh a=mh b:=by
 have d:a.length=b.length:=by have:=zalco List.length h;simpa using this
 unfold mh;rw[d]
 congr 1
 funext i
 unfold tF;have c:l4 a i=l4 b i:=by unfold l4;rw[h]
 rw[c];exact JI (by rw[mw,mw,h]) _
def uj (d:Py->Bool):a.any (λc=>d c.tx)=b.any (λc=>d c.tx):=by
 have f:∀ e:List Tr,e.any (λc=>d c.tx)=(e.map Tr.tx).any d:=λe=>by rw[List.any_map];rfl
 rw[f,f,h]
end
def De.sc {b a:Tr}(h:De b a)(c:Bool):nf a c=nf b c:=by
 have e:rx a=rx b:=by
  unfold rx;rw[Ax h.lt,uj h.lt (λx=>Td (Uj a) x),uj h.lt (λx=>hasB (Qv a) x),h.va]
  congr 2
  congr 1
  funext k
  exact JI h.fn _
 have d:r1 a=r1 b:=by
  unfold r1;rw[Ax h.fn,uj h.fn (λx=>hasB (Qv a) x),h.va]
 unfold nf;rw[e,d]
def CP {g:Nat}{a:Tr}(h:TW g a)(c:a.kd=5\/a.kd=37):∃ f e,a.fJ=[f,e]/\TW 5 f/\TW 4 e:=by
 cases h with
 | jP _ d b=>exact⟨_,_,rfl,d,b⟩
 | func _ d b=>exact⟨_,_,rfl,d,b⟩
 | YW h=>cases h;simp[Tr.kd] at c
 | lit|one|two|decl|loop|hU=>simp only[Tr.kd] at c;omega
 | _=>simp[Tr.kd] at c
def C1 {a:Tr}(h:TW 5 a):PG a=a:=by
 cases h with
 | mG c e=>
  rw[Qr (by simp[Tr.kd])];simp only[Tr.kd,Tr.tx,Tr.n,Tr.fJ]
  congr 1
  exact AR λd b=>by cases c d b;rw[Qr (by simp[Tr.kd])];rfl
def C0 {a:Tr}(h:TW 4 a):a.kd=6:=by cases h;rfl
def L8 {g:Nat}{a:Tr}(h:TW g a):PO (PG a)=PO a:=by
 have e:=he h (a:=1) O9;have d:=he h (a:=6) O9;unfold PO
 by_cases b:a.kd=1\/a.kd=6
 ·have c:(PG a).kd=a.kd/\(PG a).tx=a.tx:=by
   rcases b with b|b
   ·exact⟨(e.1.2 b).trans b.symm,e.2 b⟩
   ·exact⟨(d.1.2 b).trans b.symm,d.2 b⟩
  rw[c.1,c.2]
 ·have f:(a.kd==1||a.kd==6)=false:=by simpa using b
  have c:((PG a).kd==1||(PG a).kd==6)=false:=by simpa[e.1,d.1] using b
  rw[f,c];rfl
def Y6 {a:Tr}(b:Nat)(c:PG a=.mk a.kd a.tx a.n (a.fJ.map PG)):Qz (PG a) b=PG (Qz a b):=by
 unfold Qz;rw[show (PG a).fJ=a.fJ.map PG by rw[c];rfl,g8,g8,i6]
 cases a.fJ[b]? <;> rfl
def vM {b:Nat}{a:Tr}(h:TW b a)(c:Nat):∃ e,TW e (Qz a c):=by
 unfold Qz;rw[g8]
 cases d:a.fJ[c]? with
 | none=>exact⟨b,h⟩
 | some f=>exact Yn h f (gt d)
def avH {B:Nat}{a:Tr}(h:TW B a)(c:PG a=.mk a.kd a.tx a.n (a.fJ.map PG))(w v j:Bool):iS (PG a) w v j=iS a w v j:=by
 have t:(PG a).kd=a.kd:=by rw[c];rfl
 have q:(PG a).tx=a.tx:=by rw[c];rfl
 have C:(PG a).fJ=a.fJ.map PG:=by rw[c];rfl
 unfold iS;rw[t,q]
 by_cases k:a.kd=1
 ·rw[fL k,fL k,(qJ h O9).sc]
 rw[fK k,fK k]
 by_cases n:a.kd=6
 ·rw[fL n,fL n,(qJ h O9).sc]
 rw[fK n,fK n]
 by_cases g:a.kd=5\/a.kd=37
 ·rw[fL g,fL g];obtain⟨o,A,i,p,f⟩:=CP h g;have z:Qz a 0=o:=by unfold Qz;rw[i];rfl
  have r:Qz a 1=A:=by unfold Qz;rw[i];rfl
  unfold nq nG;rw[Y6 0 c,Y6 1 c,q,z,r,C1 p];have D:=qJ f (by rw[C0 f];omega)
  rw[uj D.lt (λx=>Td o.fJ x)]
 rw[fK g,fK g]
 by_cases l:a.kd=2\/a.kd=3\/a.kd=4
 ·rw[fL l,fL l]
 rw[fK l,fK l]
 by_cases d:a.kd=13
 ·rw[fL d,fL d];obtain⟨u,b⟩:=vM h 0;have i:(Qz a 0).kd=6:=by
   cases h with
   | cat _ f=>cases f;rfl
   | YW h=>cases h;simp[Tr.kd] at d
   | lit|one|two|decl|loop|hU=>simp only[Tr.kd] at d;omega
   | _=>simp[Tr.kd] at d
  unfold Yi;rw[Y6 0 c,q,(qJ b O9).names]
 rw[fK d,fK d]
 by_cases m:a.kd=7\/a.kd=8\/a.kd=9
 ·rw[fL m,fL m];unfold lW;rw[t,C,List.any_map];have r:a.fJ.any (Vf ∘ PG)=a.fJ.any Vf:=by
   have:∀ i:List Tr,(∀ f ∈ i,Vf (PG f)=Vf f)->i.any (Vf ∘ PG)=i.any Vf:=λi=>by
    induction i with
    | nil=>intro _;rfl
    | cons o D z=>intro h;rw[List.any_cons,List.any_cons,z λf p=>h f (gE _ p)];congr 1;exact h o gf
   refine this _ λf p=>?_;obtain⟨u,b⟩:=Yn h f p;have o:=he b (a:=3) O9;have j:=he b (a:=4) O9;have A:=he b (a:=5) O9;unfold Vf;exact kl.2 (by simp[o.1,j.1,A.1])
  rw[r]
 rw[fK m,fK m];obtain⟨u,b⟩:=vM h 0;have s:=he b (a:=23) O9;rw[Y6 0 c]
 by_cases e:(Qz a 0).kd=23
 ·rw[s.2 e,s.1.2 e,e]
 ·have f:¬ (PG (Qz a 0)).kd=23:=λx=>e (s.1.1 x);have i:((PG (Qz a 0)).kd==23)=((Qz a 0).kd==23):=kl.2 ⟨λx=>absurd (iH x) f,λx=>absurd (iH x) e⟩;rw[fK e,fK f,i]
def aEq {i:Tr}(h:i.kd≠6)(c a j k:Bool):g5 i c a j=g5 i c a k:=by
 cases i with
 | mk b f e d=>
  change b≠6 at h;rw[g5,g5];have:∀ c a,iS (.mk b f e d) c a j=iS (.mk b f e d) c a k:=λc a=>by
   unfold iS
   by_cases g:(Tr.mk b f e d).kd=1
   ·rw[fL g,fL g]
   ·rw[fK g,fK g,fK (show ¬ (Tr.mk b f e d).kd=6 from h),fK (show ¬ (Tr.mk b f e d).kd=6 from h)]
  rw[this]
def avI {c:Tr}(h:l7 c)(b d a:Bool):g5 c b d a=none:=by
 rcases h with ⟨a,rfl⟩|⟨e,_,_,rfl⟩|⟨b,_,rfl⟩
 ·unfold ZI;cases a <;> simp[g5,Uk,iS,Tr.kd]
 all_goals
  simp[g5,Uk,iS,Tr.kd]
def HU {d c b:Bool}:∀ {a:List Tr},Uk a d c b=none↔∀ e ∈ a,g5 e d c b=none
 | []=>by rw[Uk];simp
 | e::a=>by
  rw[Uk]
  cases h:g5 e d c b with
  | some f=>simp[h]
  | none=>simp[h,HU (a:=a)]
def CL {a:Tr}{c b d:Bool}:g5 a c b d=none↔iS a (s2 a c) (i2 a b) d=none/\∀ j ∈ a.fJ,g5 j (s2 a c) (i2 a b) (QU a)=none:=by
 cases a with
 | mk e i g f=>
  rw[g5]
  cases h:iS (.mk e i g f) (s2 (.mk e i g f) c) (i2 (.mk e i g f) b) d with
  | some k=>simp
  | none=>simp[Tr.fJ,HU]
def y1 {b a:Tr}(h:a ∈ b.fJ):a.count<b.count:=BX
def Ba:∀ (m:Nat) {r:Nat} {a:Tr} {c b d:Bool},a.count<=m->TW r a->g5 a c b d=none->g5 (PG a) c b d=none
 | 0,_,a,_,_,_,q,_,_=>by cases a;rw[Tr.count] at q;omega
 | m+1,r,a,c,b,d,q,h,t=>by
  obtain⟨w,n⟩:=CL.1 t;have o:∀ j ∈ a.fJ,∀ c b d,g5 j c b d=none->g5 (PG j) c b d=none:=λj f c b d z=>by
   have:=y1 f;exact Ba m O9 (Yn h j f).choose_spec z
  rcases qU a with e|⟨u,i,_,_⟩
  ·have l:QU (PG a)=QU a:=by rw[e];rfl
   have v:PO (PG a)=PO a:=by rw[e];rfl
   have p:s2 (PG a) c=s2 a c:=by
    unfold s2;rw[l,v,Y6 1 e,L8 (vM h 1).choose_spec]
   have s:i2 (PG a) b=i2 a b:=by unfold i2;rw[l]
   refine CL.2 ⟨by rw[p,s,avH h e];exact w,λj f=>?_⟩
   rw[p,s,l];rw[e] at f;obtain⟨k,g,rfl⟩:=hy.1 f;exact o k g _ _ _ (n k g)
  ·rcases i with i|i
   ·exact avI i _ _ _
   ·obtain⟨k,g,e⟩:=hy.1 i;have A:=(pB (Tz (rM h u)) (.inl rfl)).1;have l:QU a=false:=by unfold QU;simp;omega
    have s:s2 a c=c:=by
     unfold s2 PO;rw[l];have:(a.kd==1||a.kd==6)=false:=by simp;omega
     rw[this];simp
    have v:i2 a b=b:=by unfold i2;rw[l];rfl
    have p:=n k g;rw[l,s,v] at p;rw[aEq O9 c b d false,<-e];exact o k g _ _ _ p
def Yj {a:Tr}(h:TW 0 a)(b:RY a=true):(∃ c,Nb c/\a=.mk 17 O8 c [])\/(∃ c,Sm c/\a=.mk 18 c 0 [])\/a=.mk 19 O8 0 []\/a=.mk 20 O8 0 []\/a=.mk 21 O8 0 []\/a=.mk 22 O8 0 []:=by
 have b:=kc b
 cases h with
 | num h=>exact .inl ⟨_,h,rfl⟩
 | str h=>exact .inr (.inl ⟨_,h,rfl⟩)
 | lit c=>
  rcases c with rfl|rfl|rfl|rfl
  ·exact .inr (.inr (.inl rfl))
  ·exact .inr (.inr (.inr (.inl rfl)))
  ·exact .inr (.inr (.inr (.inr (.inl rfl))))
  ·exact .inr (.inr (.inr (.inr (.inr rfl))))
 | one|two=>simp only[Tr.kd] at b;omega
 | _=>simp[Tr.kd] at b
def Et (a b:Tr):Prop:=b=a\/((∃ c,TW c a)/\b=PG a)
abbrev Ed (b a:Nd):Prop:=Et b.2 a.2
inductive iQ (P:Nd->Nd->Prop):List Nd->List Nd->Prop
 | nil:iQ P [] []
 | cons {d d' l f7} (h:P d d') (t:iQ P l f7):iQ P (d::l) (d'::f7)
abbrev lY (a:Tr):Prop:=25<=a.kd/\a.kd<=33
structure En (d d':Nd):Prop where
 kd:d'.2.kd=d.2.kd
 tx:d'.2.tx=d.2.tx
 n:d'.2.n=d.2.n
 el:iQ Ed (QB d) (QB d')
section
variable {d b:Nd} {e o:Tr} {P:Nd->Nd->Prop} {g j:List Nd}
def s5 {c:Tr->Tr}(hP:∀ a,∀ k l:Option Nat,Et a (c a)->P (k,a) (l,c a)):∀ (f:List Tr) (no i:Option Nat),(∀ a ∈ f,Et a (c a))->iQ P (Vj no f) (Vj i (f.map c))
 | [],_,_,_=>.nil
 | e::f,no,i,h=>by
  rw[gW,Vj,Vj];exact .cons (hP _ _ _ (h e gf)) (s5 hP f _ _ λa k=>h a (gE _ k))
def azE (c:P na na)(h:iQ P g j):∀ a,P (g.getD a na) (j.getD a na):=by
 induction h with
 | nil=>intro a;exact c
 | cons h _ f=>intro a;cases a with
  | zero=>exact h
  | succ a=>exact f a
def SZ (h:iQ P g j):j.length=g.length:=by
 induction h with
 | nil=>rfl
 | cons _ _ a=>rw[gL,gL,a]
def avJ (h:iQ P g j):iQ P g.tail j.tail:=by cases h with
 | nil=>exact .nil
 | cons _ h=>exact h
def aoo {a:Nd->Bool}(i:∀ d b,P d b->a b=a d)(h:iQ P g j):iQ (λd b=>P d b/\a d=true) (g.filter a) (j.filter a):=by
 induction h with
 | nil=>exact .nil
 | @cons d b _ _ h _ f=>
  rw[ia,ia,i d b h]
  by_cases c:a d=true
  ·rw[fL c,fL c];exact .cons ⟨h,c⟩ f
  ·rw[fK c,fK c];exact f
def Zt (h:b.2=d.2):En d b:=by
 refine⟨by rw[h],by rw[h],by rw[h],?_⟩;have:=s5 (P:=Ed) (c:=id) (λ_ _ _ h=>h) d.2.fJ (d.1.map (· + 1)) (b.1.map (· + 1)) λ_ _=>.inl rfl;rw[List.map_id] at this
 show iQ Ed (Vj _ d.2.fJ) (Vj _ b.2.fJ)
 rw[h];exact this
def yg {f:Nat}(h:TW f d.2)(a:b.2=.mk d.2.kd d.2.tx d.2.n (d.2.fJ.map PG)):En d b:=by
 refine⟨by rw[a];rfl,by rw[a];rfl,by rw[a];rfl,?_⟩
 show iQ Ed (Vj _ d.2.fJ) (Vj _ b.2.fJ)
 rw[show b.2.fJ=d.2.fJ.map PG by rw[a];rfl]
 exact s5 (λ_ _ _ h=>h) _ _ _ λi c=>.inr ⟨Yn h i c,rfl⟩
def zj (e:Tr):De e e:=⟨rfl,rfl,rfl⟩
def Et.ee (h:Ed d b)(a:¬ lY d.2):En d b/\De d.2 b.2:=by
 rcases h with h|⟨⟨f,c⟩,h⟩
 ·exact⟨Zt h,by rw[h];exact zj _⟩
 ·exact⟨yg c (h.trans (Qr a)),by rw[h];exact qJ c a⟩
def Et.ca (h:Ed d b):En d b\/(TW 0 d.2/\lY d.2/\hY (.mk d.2.kd d.2.tx d.2.n (d.2.fJ.map PG))=some b.2):=by
 rcases h with h|⟨⟨k,a⟩,h⟩
 ·exact .inl (Zt h)
 ·rcases qU d.2 with i|⟨c,_,f,_⟩
  ·exact .inl (yg a (h.trans i))
  ·exact .inr ⟨rM a c,c,by rw[h];exact f⟩
def En.gK (h:En d b)(a:Nat):Ed (Pg d a) (Pg b a):=azE (.inl rfl) h.el a
def En.len (h:En d b):b.2.fJ.length=d.2.fJ.length:=by rw[<-RU,<-RU];exact SZ h.el
def Et.nY (h:Et e o){a:Int}(c:a<=16\/a=23\/a=36\/40<=a):(o.kd=a↔e.kd=a)/\(e.kd=a->o.tx=e.tx):=by
 rcases h with rfl|⟨⟨i,f⟩,rfl⟩
 ·exact⟨Iff.rfl,λ_=>rfl⟩
 ·exact he f c
def Et.str (h:Et e o):PO o=PO e:=by
 rcases h with rfl|⟨⟨c,a⟩,rfl⟩
 ·rfl
 ·exact L8 a
def Et.fn (h:Et e o):SH o=SH e:=by
 rcases h with rfl|⟨⟨c,a⟩,rfl⟩
 ·rfl
 ·exact(Cs a).1
def Ey:∀ (c:List Tr) (no:Option Nat) (a:Nat),((Vj no c).getD a na).2=c.getD a na.2
 | [],_,_=>rfl
 | _::_,_,0=>rfl
 | _::c,no,a+1=>by rw[Vj];exact Ey c _ a
def rb (d:Nd)(a:Nat):(Pg d a).2=d.2.fJ.getD a na.2:=Ey _ _ _
def Xz {c:Tr}{a:Nat}(h:d.2.fJ[a]? = some c):(Pg d a).2=c:=by rw[rb,g8,h];rfl
def Et.fu (h:Ed d b)(m:d.2.kd=5\/d.2.kd=37):(Pg b 0).2=(Pg d 0).2/\En (Pg d 1) (Pg b 1)/\De (Pg d 1).2 (Pg b 1).2:=by
 rcases h with h|⟨⟨u,p⟩,h⟩
 ·have a:∀ c,(Pg b c).2=(Pg d c).2:=λc=>by rw[rb,rb,h]
  exact⟨a 0,Zt (a 1),by rw[a 1];exact zj _⟩
 ·obtain⟨i,c,f,n,l⟩:=CP p m;have k:b.2.fJ=[i,PG c]:=by rw[h,Qr O9];show d.2.fJ.map PG=_;rw[f,gW,C1 n];rfl
  have q:(Pg d 0).2=i:=Xz (by rw[f];rfl)
  have a:(Pg d 1).2=c:=Xz (by rw[f];rfl)
  have t:(Pg b 0).2=i:=Xz (by rw[k];rfl)
  have s:(Pg b 1).2=PG c:=Xz (by rw[k];rfl)
  have r:Ed (Pg d 1) (Pg b 1):=.inr ⟨⟨4,by rw[a];exact l⟩,by rw[a];exact s⟩
  exact⟨by rw[q,t],r.ee (by rw[a];have:=C0 l;omega)⟩
def Et.parts (h:Ed d b)(p:¬ lY d.2)(i:∀ c,TW c d.2->∀ a ∈ d.2.fJ,¬ lY a):iQ En (QB d) (QB b):=by
 rcases h with h|⟨⟨c,l⟩,h⟩
 ·have:=s5 (P:=En) (c:=id) (λ_ _ _ _=>Zt rfl) d.2.fJ (d.1.map (· + 1)) (b.1.map (· + 1)) λ_ _=>.inl rfl;rw[List.map_id] at this
  show iQ En (Vj _ d.2.fJ) (Vj _ b.2.fJ)
  rw[h];exact this
 ·show iQ En (Vj _ d.2.fJ) (Vj _ b.2.fJ)
  rw[show b.2.fJ=d.2.fJ.map PG by rw[h,Qr p];rfl]
  have:∀ (f:List Tr) (no m:Option Nat),(∀ a ∈ f,(∃ c,TW c a)/\¬ lY a)->iQ En (Vj no f) (Vj m (f.map PG)):=by
   intro f
   induction f with
   | nil=>intro _ _ _;exact .nil
   | cons e f q=>
    intro no m h;rw[gW,Vj,Vj];obtain⟨⟨c,r⟩,n⟩:=h e gf;exact .cons (yg r (Qr n)) (q _ _ λa i=>h a (gE _ i))
  exact this _ _ _ λa k=>⟨Yn l a k,i c l a k⟩
structure Fe (f e9:Fu):Prop where
 d:Ed f.d e9.d
 k:f.d.2.kd=5\/f.d.2.kd=37
 s:e9.scope=f.scope
 t:e9.fT=f.fT
structure Sr (σ σ':St):Prop where
 m:σ'.M=σ.M
 l:σ'.hq=σ.hq
 c:σ'.fO=σ.fO
 s:σ'.steps<=σ.steps
 n:σ'.Ri.length=σ.Ri.length
 f:∀ (i:Nat) f,σ.Ri[i]? = some f->∃ e9,σ'.Ri[i]? = some e9/\Fe f e9
variable {a c:St}{p:Pl}
section
variable (h:Sr a c)
include h
def Sr.mm (f:Mo):Sr { a with M:=f } { c with M:=f }:=⟨rfl,h.l,h.c,h.s,h.n,h.f⟩
def Sr.hi (k:Int)(i:Py)(f:Int)(l:Va):Sr (a.hi k i f l) (c.hi k i f l):=by unfold St.hi;rw[h.m];exact h.mm _
def Sr.Rj (i:Int)(f:Py)(k:Va)(fx:Bool):Sr (a.Rj i f k fx) (c.Rj i f k fx):=by unfold St.Rj;rw[h.m];exact h.mm _
def Sr.gq (i f l k:Int):Sr (a.gq i f l) (c.gq i f k):=⟨by show c.M.scope i f=_;rw[h.m];rfl,h.l,h.c,h.s,h.n,h.f⟩
def Sr.gg:c.gg=a.gg:=by unfold St.gg;rw[h.m]
def Sr.step:Sr a.step c.step:=⟨h.m,h.l,h.c,Nat.succ_le_succ h.s,h.n,h.f⟩
def Sr.fst:Sr a.step c:=⟨h.m,h.l,h.c,gF h.s,h.n,h.f⟩
end
def Sr.Hb (h:Sr a c.step):Sr a c:=⟨h.m,h.l,h.c,f9 (ge _) h.s,h.n,h.f⟩
def Sr.fun (h:Sr a c)(m:Ed d b)(n:d.2.kd=5\/d.2.kd=37):(f5 b p c).1=(f5 d p a).1/\Sr (f5 d p a).2 (f5 b p c).2:=by
 have r:PO (Pg b 1).2=PO (Pg d 1).2:=((m.ee O9).1.gK 1).str;unfold f5;refine⟨by show UH c.M.objs.length=_;rw[h.m],?_,h.l,h.c,h.s,by simp[h.n],λk l f=>?_⟩
 ·show c.M.Qj (3+c.Ri.length)=a.M.Qj (3+a.Ri.length)
  rw[h.m,h.n]
 ·change (a.Ri++[_])[k]? = some l at f
  show ∃ s,(c.Ri++[_])[k]? = some s/\_
  rcases hT k a.Ri.length with i|i
  ·obtain⟨t,u,q⟩:=h.f k l ((ht i).symm.trans f);exact⟨t,(ht (by rw[h.n];exact i)).trans u,q⟩
  ·rw[hm i,List.getElem?_singleton] at f
   split at f
   ·rename_i q
    cases f;refine⟨⟨b,p.scope,p.fT||PO (Pg b 1).2⟩,by rw[hm (by rw[h.n];exact i),h.n,q];rfl,m,n,rfl,?_⟩
    show (p.fT||PO (Pg b 1).2)=_
    rw[r]
   ·
    cases f
def Sr.settle (h:Sr a c)(i:Int)(f:Py)(k:Va):Sr (Hp.settle i f k a) (Hp.settle i f k c):=by
 unfold Hp.settle;rw[h.m]
 split
 ·exact h.hi i f 0 k
 ·exact h.mm _
def Yo {α:Type}{i k:St->α->St}:∀ (g:List α) {a c:St},Sr a c->(∀ f a c,Sr a c->Sr (i a f) (k c f))->Sr (g.foldl i a) (g.foldl k c)
 | [],_,_,h,_=>h
 | f::g,_,_,h,l=>Yo g (l f _ _ h) l
def zW {P:Nd->Nd->Prop}{i k:St->Nd->St}{g j:List Nd}(n:iQ P g j):∀ {a c:St},Sr a c->(∀ d b a c,P d b->Sr a c->Sr (i a d) (k c b))->Sr (g.foldl i a) (j.foldl k c):=by
 induction n with
 | nil=>intro _ _ h _;exact h
 | cons h _ m=>intro _ _ l f;exact m (f _ _ _ _ h l) f
def Bi (k:List Tr)(i:Int)(a:St):QS k i a=(k.map λf=>(f.tx,f.kd)).foldl (λa f=>a.hi i f.1 (if f.2=4 then 2 else 1) vU) a:=by
 rw[List.foldl_map];rfl
def Sr.lets (h:Sr a c){e o:Tr}(i:De e o)(f:Int):Sr (QS (Qd e) f a) (QS (Qd o) f c):=by
 rw[Bi,Bi,i.le];exact Yo _ h λ_ _ _ h=>h.hi _ _ _ _
def ww (f:En d b):iQ (λd b=>Ed d b/\SH d.2=true) (Ul d) (Ul b):=aoo (a:=λi:Nd=>SH i.2) (λ_ _ h=>h.fn) f.el
def Ai {e:Tr}(h:SH e=true):e.kd=5:=by simpa[SH] using h
section
variable (h:Sr a c)
include h
def Sr.funcs (l:En d b)(p:Pl):Sr (Ut d p a) (Ut b p c):=zW (ww l) h λd b a c f h=>by
 have i:=Ai f.2;obtain⟨m,k⟩:=h.fun (p:=p) f.1 (.inl i);simp only;rw[m,(f.1.nY (a:=5) O9).2 i];exact k.settle _ _ _
def Sr.jP (f:Ed d b)(i:d.2.kd=37):(VI b p c).1=(VI d p a).1/\Sr (VI d p a).2 (VI b p c).2:=by
 have l:=(f.ee O9).1.tx;unfold VI;rw[l]
 split
 ·exact h.fun f (.inr i)
 ·have k:=(h.gq p.scope (-1) (own d) (own b)).fun (p:={ p with scope:=a.gg }) f (.inr i);simp only;rw[h.gg,k.1];exact⟨rfl,k.2.hi _ _ _ _⟩
def Sr.gw (i:En d b)(f:De d.2 b.2):(Qu b p c).1=(Qu d p a).1/\Sr (Qu d p a).2 (Qu b p c).2:=by
 unfold Qu;rw[f.names]
 split
 ·exact⟨rfl,h⟩
 ·simp only;rw[h.gg];exact⟨rfl,((h.gq _ _ _ _).lets f _).funcs i _⟩
def Sr.args (f:List Va):(SE f c).1=(SE f a).1/\Sr (SE f a).2 (SE f c).2:=by
 unfold SE;simp only;rw[h.m];exact⟨rfl,Yo _ ((h.mm _).Rj _ _ _ _) λ_ _ _ h=>h.Rj _ _ _ _⟩
def Sr.body (t:Ed d b)(m:d.2.kd=5\/d.2.kd=37)(p:Pl)(f:List Va):Sr (S9 d p f a) (S9 b p f c):=by
 obtain⟨r,s,i⟩:=t.fu m;unfold S9;simp only;rw[r];have l:Sr ((Pg d 0).2.fJ.zipIdx.foldl (λ(a:St) (x:Tr × Nat)=>Hp.settle p.scope x.1.tx (f.getD x.2 vU) a) a) ((Pg d 0).2.fJ.zipIdx.foldl (λ(a:St) (x:Tr × Nat)=>Hp.settle p.scope x.1.tx (f.getD x.2 vU) a) c):=Yo _ h λ_ _ _ h=>h.settle _ _ _;have n:hasArgs (Pg d 0).2.fJ (Pg b 1).2=hasArgs (Pg d 0).2.fJ (Pg d 1).2:=by unfold hasArgs;rw[i.names]
 rw[n,i.va];refine Sr.funcs (Sr.lets (Yo (Qv (Pg d 1).2) (i:=λa k=>a.hi p.scope k 0 vU) (k:=λa k=>a.hi p.scope k 0 vU) ?_ λ_ _ _ h=>h.hi _ _ _ _) i _) s _
 split
 ·obtain⟨q,k⟩:=l.args f;rw[q];exact k.hi _ _ _ _
 ·exact l
def Sr.look (k:b.2.tx=d.2.tx):(look b p c).1=(look d p a).1/\Sr (look d p a).2 (look b p c).2:=by
 have f:∀ (d:Nd) (a:St),∃ i,(Hp.look d p a).2={ a with seen:=i }:=λd a=>by
  unfold Hp.look;simp only
  split
  ·split
   ·exact⟨_,rfl⟩
   ·exact⟨a.seen,rfl⟩
  ·exact⟨a.seen,rfl⟩
 obtain⟨i,l⟩:=f d a;obtain⟨n,m⟩:=f b c;refine⟨?_,?_⟩
 ·show c.M.find p.scope b.2.tx=_;rw[h.m,k];rfl
 ·rw[l,m];exact⟨h.m,h.l,h.c,h.s,h.n,h.f⟩
end
end
end Hp
abbrev qT (a c:Value)(lasq:ByteArray)(b:Nat):Obj:=.cells #[a,c,.string lasq,.map (some b)] 174 (0,0)
abbrev Ve (a:Nat):Value:=.pointer (some ⟨a,0,none⟩)
def Yd (c a g:Nat)(d:List UInt8)(lasq:ByteArray)(f:Value)(e:World):Prop:=
 c<=a/\∃ b,e.heap[a]? = some (qT f b lasq g)/\e.ownsRow c 5 1 b d.length (Lib.byteCells d)/\b.ownBlock≠some a
def ih (b a c:Nat)(d:List UInt8)(lasq:ByteArray)(e:World):Prop:=Yd b a c d lasq (.pointer none) e\/Yd b a c d lasq (Ve a) e
structure Kp (B b:Nat)(w w':World):Prop where
 below:Below B w w'
 kept:Lib.OthersKept 5 (some b) w w'
def Kp.refl (b c:Nat)(a:World):Kp b c a a:=⟨f2 _ _,Lib.OthersKept.refl _ _ _⟩
def Kp.trans {a b:Nat}{x y c:World}(h:Kp a b x y)(d:Kp a b y c):Kp a b x c:=⟨h.below.trans d.below,h.kept.trans d.kept⟩
section
variable {B a:Nat} {x y:World} (h:Kp B a x y)
include B a x y h
def Kp.drew:Kp B a x y.drew:=⟨h.below.drew,h.kept.drew⟩
def Kp.alloc (c:B<=y.heap.size)(b:Obj):Kp B a x (y.alloc b):=⟨h.below.alloc c b,h.kept.alloc b⟩
def Kp.setCell (d:B<=a)(b:Nat)(c:Value):Kp B a x (y.setCell ⟨a,b,none⟩ c):=⟨h.below.setCell (p:=⟨a,b,none⟩) d c,h.kept.setCell ⟨a,b,none⟩ rfl c⟩
end
def Yd.lt {c a f:Nat}{g:List UInt8}{lasq:ByteArray}{e:Value}{b:World}(h:Yd c a f g lasq e b):a<b.heap.size:=by
 obtain⟨_,i,d,_⟩:=h;exact fI d
section
variable {d a e:Nat} {g:List UInt8} {lasq:ByteArray} {b:World} (h:ih d a e g lasq b)
include d a e g lasq b h
def ih.lt:a<b.heap.size:=by
 rcases h with h|h <;> exact h.lt
def ih.lo:d<=a:=by
 rcases h with h|h <;> exact h.1
def ih.cells:b.cell? ⟨a,2,none⟩=some (.string lasq)/\b.cell? ⟨a,3,none⟩=some (.map (some e))/\∀ c,b.frozen? ⟨a,c,none⟩=false:=by
 rcases h with h|h <;>
 ·obtain⟨_,i,f,_⟩:=h;refine⟨?_,?_,λc=>Lib.frozen_of_heap f c⟩
  all_goals
   rw[Lib.cell_of_heap f];rfl
end
def GP {e:World}{c a k:Nat}{b l:Value}{d:Nat}{f:List Value}(h:e.ownsRow c 5 1 b d f)(i:b.ownBlock≠some a):(e.setCell ⟨a,k,none⟩ l).ownsRow c 5 1 b d f:=
 h.kept (row:=some a) ⟨rfl,rfl,rfl,by simp[World.setCell],λm _ g=>g1 _ _ _ _ (λj=>g (by simp[j]))⟩ (fU i)
section
variable {b a c:Nat} {d:List UInt8} {lasq:ByteArray}
include b a c d lasq
def Yd.used {g:Value}{f:World}(h:Yd b a c d lasq g f)(e:Value):Yd b a c d lasq e (f.setCell ⟨a,0,none⟩ e):=H6
def Yd.last {e:Value}{g:World}(h:Yd b a c d lasq e g)(f:ByteArray):Yd b a c d f e (g.setCell ⟨a,2,none⟩ (.string f)):=H6
def ih.last {f:World}(h:ih b a c d lasq f)(e:ByteArray):ih b a c d e (f.setCell ⟨a,2,none⟩ (.string e)):=by
 rcases h with h|h
 ·exact fM (h.last e)
 ·exact fU (h.last e)
def Yd.gx {j:Value}{f g:World}(h:Yd b a c d lasq j f)(k:∀ e,e<f.heap.size->g.heap[e]? = f.heap[e]?):Yd b a c d lasq j g:=by
 obtain⟨m,p,i,o,n⟩:=h;exact⟨m,p,by rw[k a (fI i)];exact i,Rt (a:=λ_=>True) (λe _ l=>k e l) (λ_ _=>trivial) o,n⟩
def ih.gx {f g:World}(h:ih b a c d lasq f)(i:∀ e,e<f.heap.size->g.heap[e]? = f.heap[e]?):ih b a c d lasq g:=by
 rcases h with h|h
 ·exact fM (h.gx i)
 ·exact fU (h.gx i)
end
def F1:(Tryz.prog.info? 171).map (·.size)=some 2:=by kernel_rfl
def aC1:liesAt Tryz.prog Tryz.prog.depth 174 (4 / Tryz.prog.cellsOf 174) 0 171 1=true:=by kernel_rfl
def TH (b:Nat)(a:World)(f:a.cell? ⟨b,0,none⟩=some (Ve b)) :
  Calls Tryz.prog 240 #[Ve b] a λe c=>e=.returned (.tuple #[])/\c=a:=by
 obtain⟨g,d,_⟩:=mZ.1 F1;go_enter Tryz.func240,Tryz.ntmps240
 go_wp2
 rw[Lib.run_neq_ptr_same a _ zalfk d]
 go_wp2
 go_end0
 exact⟨rfl,rfl⟩
def Z6 (a:Nat)(b:World)(j:b.cell? ⟨a,0,none⟩=some Ry)(d:b.shape? a=some (174,4))(i:b.frozen? ⟨a,0,none⟩=false) :
  Calls Tryz.prog 240 #[Ve a] b λg e=>g=.returned (.tuple #[])/\e=b.setCell ⟨a,0,none⟩ (Ve a):=by
 obtain⟨k,c,f⟩:=mZ.1 F1;go_enter Tryz.func240,Tryz.ntmps240
 go_wp2
 rw[Lib.run_to_unsafe b ⟨a,0,none⟩ zalfk zalgz c (by rw[f];decide) d (Nat.zero_lt_succ 3)]
 simp only[Result.andThen];rw[mp]
 go_wp2
 rw[run_callFunc_extern Tryz.func288 Qs Qs Qs (e:=Extern.AbiNoEscape.same) Qs];rw[Lib.run_noEscape];simp only[Result.andThen];rw[mp]
 go_wp2
 rw[Lib.run_from_unsafe b ⟨a,0,none⟩ zalgz zalfk c d aC1];simp only[Result.andThen];rw[mp]
 go_wp2
 go_end0
 exact⟨rfl,rfl⟩
def ZY {e a l:Nat}{m:List UInt8}{lasq:ByteArray}{c:World}(h:ih e a l m lasq c) :
  Calls Tryz.prog 240 #[Ve a] c λi d=>i=.returned (.tuple #[])/\Yd e a l m lasq (Ve a) d/\Kp e a c d:=by
 rcases h with h|h
 ·obtain⟨f,k,b,j,g⟩:=h;refine(Z6 a c (by rw[Lib.cell_of_heap b];rfl) (by simp[World.shape?,b]) (Lib.frozen_of_heap b 0)).mono ?_
  rintro i d ⟨rfl,rfl⟩;exact⟨rfl,Yd.used ⟨f,k,b,j,g⟩ _,(Kp.refl e a c).setCell f 0 _⟩
 ·obtain⟨f,k,b,j,g⟩:=h;refine(TH a c (by rw[Lib.cell_of_heap b];rfl)).mono ?_
  rintro i d ⟨rfl,rfl⟩;exact⟨rfl,⟨f,k,b,j,g⟩,Kp.refl _ _ _⟩
def atE {k:World}{d e i:Nat}{c:Value}{g:Nat}{l:List Value}(h:k.ownsRow d e i c g l):∃ j f b,c=.slice j f b:=by
 rcases h.2 with ⟨a,_⟩|⟨n,b,m,a,_⟩
 all_goals
  exact⟨_,_,_,a⟩
def Jm {d:World}{e:Nat}{c:Value}{j:Nat}{l:List Value}(h:d.ownsRow e 5 1 c j l):∀ a,c.ownBlock=some a->∃ g i,d.heap[a]? = some (.cells g 5 i):=by
 intro a b
 rcases h.2 with ⟨rfl,_⟩|⟨n,m,f,rfl,_,k,_⟩
 ·simp[Value.ownBlock] at b
 ·simp[Value.ownBlock] at b;subst b;exact⟨f,_,k⟩
section
variable {c b g:Nat} {e:List UInt8} {lasq:ByteArray}
include c b g e lasq
def Yd.put {i v a:Value}{d:World}(l:c<=b)(f:d.heap[b]? = some (qT i v lasq g))(k:d.ownsRow c 5 1 a e.length (Lib.byteCells e)):Yd c b g e lasq i (d.setCell ⟨b,1,none⟩ a):=by
 have j:=Lib.ownBlock_ne k f Pm;exact⟨l,a,by simp[World.setCell,Array.getElem?_modify,f],GP k j,j⟩
def Z4 {q:World}(m:UInt8)(h:ih c b g e lasq q)(ac:e.length+1<=100000000) :
  Calls Tryz.prog 176 #[Ve b,.int .u8 (m.toNat:Int)] q λk B=>k=.returned QW/\ih c b g (e++[m]) lasq B/\Kp c b q B:=by
 obtain⟨P,F,N,I,M⟩:=gY mF;have d:=Y (ZY h);clear h;go_enter Tryz.func176,Tryz.ntmps176;have p{G}(h:G:=by
 go_wp2_with (at_builtin;refine j7 _ rfl _ _ 42 rfl c 5 P (.int .u8 0) 1 1 zalfq F N I M rfl Pm _ _ _ rfl (n.out.alloc _) ⟨l.heap.size,0,none⟩ 1 1 [.int .u8 (m.toNat:Int)] rfl rfl ?c1 ?c2 ?c3 ?c4 ?c5 ?_)
 case c1=>
  exact yO
 case c2=>intro ah a;simp at a;subst a;rfl
 case c3=>unfold maxLen;omega
 case c4=>omega
 case c5=>simp;omega
 intro W f hown' z _;have E:b<l.heap.size:=fI t.out;have i:f.heap[b]? = some (qT (Ve b) w lasq g):=by
  rw[z.block b RQ (λk=>C.out k.symm),gd l _ b E];exact O4 t
 have p{G}(h:G:=by
 have O:f.ownsRow c 5 1 (.slice v u s) (e++[m]).length (Lib.byteCells (e++[m])):=by
  rw[Lib.byteCells_append];simpa[Lib.byteCells] using hown'
 have H:=Y (Yd.put r i O);have R:Hid (Kp c b q (f.setCell ⟨b,1,none⟩ (.slice v u s))):=by
  have a:=A.out.alloc O9 (.cells #[.int .u8 (m.toNat:Int)] 5);refine Kp.setCell ⟨a.below.grown z RQ (λj a=>(n.out.lt j a).1),a.kept.grown z (Jm (n.out.alloc _))⟩ r 1 _
 clear i;go_wp2;go_ret;exact⟨rfl,fU H.out,R.out⟩):=O6 h;exact H3):=O6 h;exact La
def MB {m:World}(a:ByteArray)(h:ih c b g e lasq m)(ac:e.length+a.size<=100000000) :
  Calls Tryz.prog 282 #[Ve b,.string a] m λk z=>k=.returned (.tuple #[.int .i64 (a.size:Int),QW])/\ih c b g (e++a.data.toList) lasq z/\Kp c b m z:=by
 obtain⟨P,F,M,H,I⟩:=gY mF;have d:=Y (ZY h);clear h;go_enter Tryz.func282,Tryz.ntmps282;have p{G}(h:G:=by
 go_wp2_with (at_builtin;refine Lib.wpList_append_own_string _ rfl _ _ 42 9 rfl c 5 P zalfq zaldl F M H I _ _ _ rfl n.out a rfl ?c3 ?c4 ?c5 ?_)
 case c3=>unfold maxLen;omega
 case c4=>omega
 case c5=>omega
 intro W f hown' q _;have E:b<l.heap.size:=fI t.out;have i:f.heap[b]? = some (qT (Ve b) w lasq g):=by
  rw[q.block b E (λk=>C.out k.symm)];exact O4 t
 have p{G}(h:G:=by
 have O:f.ownsRow c 5 1 (.slice v u s) (e++a.data.toList).length (Lib.byteCells (e++a.data.toList)):=by
  rw[Lib.byteCells_append];simpa[Lib.byteCells,Lib.strCells] using hown'
 have N:=Y (Yd.put r i O);have R:Hid (Kp c b m (f.setCell ⟨b,1,none⟩ (.slice v u s))):=
  Kp.setCell ⟨A.out.below.grown q S (λj B=>(n.out.lt j B).1),A.out.kept.grown q (Jm n.out)⟩ r 1 _
 clear i;go_wp2
 go_ret2
 exact⟨rfl,fU N.out,R.out⟩):=O6 h;exact H3):=O6 h;exact La
end
def amy {f g i:Nat}{a:List UInt8}{lasq:ByteArray}{c:World}(h:ih f g i a lasq c)(k:a≠[])(H:a.length<=100000000) :
  Calls Tryz.prog 84 #[Ve g] c λu o=>u=.returned (.string ⟨a.toArray⟩)/\Below f c o:=by
 obtain⟨j,D,A,l,n,t⟩:∃ j,Yd f g i a lasq j c:=by
  rcases h with h|h
  all_goals
   exact⟨_,h⟩
 have p:a.length≠0:=by simpa using k
 obtain⟨b,d,e,rfl,z,m,I,q,F,v⟩:∃ b d e,A=.slice (some ⟨b,0,none⟩) a.length d/\f<=b/\c.heap[b]? = some (.cells e 5 (0,0))/\a.length<=d/\d<=maxLen/\e.size=d * 1/\e.toList.take (a.length * 1)=Lib.byteCells a:=by
  rcases n.2 with ⟨_,r⟩|⟨b,d,e,s,w⟩
  ·exact absurd r p
  ·exact⟨b,d,e,s,w⟩
 have E:c.drew.cell? ⟨g,1,none⟩=some (.slice (some ⟨b,0,none⟩) a.length d):=by
  have:c.drew.heap[g]? = some (qT j (.slice (some ⟨b,0,none⟩) a.length d) lasq i):=l;rw[Lib.cell_of_heap this];rfl
 have B:(Builtin.unsafeSliceData_ #[42] 240 #[.slice (some ⟨b,0,none⟩) a.length d]).run Tryz.prog c.drew=.ok (.pointer (some ⟨b,0,none⟩)) c.drew:=
  Lib.run_unsafeSliceData_row _ _ _ _ _ _ O9
 have C:(Builtin.unsafeString_ #[240,3] 9 #[.pointer (some ⟨b,0,none⟩),.int .i64 a.length]).run Tryz.prog c.drew=.ok (.string ⟨a.toArray⟩) (c.drew.freeze ⟨b,0,none⟩ a.length):=by
  refine Lib.run_unsafeString_row c.drew 240 3 9 5 Tryz.underlying240 Qs b e.size (by have s:c.drew.heap[b]? = some (.cells e 5 (0,0)):=m;simp[World.shape?,s]) a k O9 (by unfold maxLen at q;omega) ?_
  intro w x r;have:=n.cells (g:=b) rfl w (.int .u8 x.toNat) (by simp[Lib.byteCells,r]);exact this
 clear l t m v h;go_enter Tryz.func84,Tryz.ntmps84
 go_wp2
 go_region
 all_goals (go_wp2;go_ret;exact⟨rfl,Lib.below_freeze (Below.drew (f2 f c)) (p:=⟨b,0,none⟩) z _⟩)
def qS (a:ByteArray):Bool:=a.data.toList==[]||a.data.toList==[40]||a.data.toList==[33]||a.data.toList==[46]||a.data.toList==[123]
def tI (a:ByteArray):Bool:=a.data.toList==[59]||a.data.toList==[44]||a.data.toList==[41]||a.data.toList==[58]||a.data.toList==[46]||a.data.toList==[125]
def amB {d b f:Nat}{g:List UInt8}{lasq:ByteArray}{a:World}(h:ih d b f g lasq a) :
  Calls Tryz.prog 233 #[Ve b] a λe c=>e=.returned (.bool (qS lasq))/\c=a:=by
 obtain⟨i,_,_⟩:=h.cells;clear h;go_enter Tryz.func233,Tryz.ntmps233
 go_wp2
 all_goals (go_ret;refine⟨?_,rfl⟩;simp_all [qS,hB])
def N5 (a:ByteArray)(b:World) :
  Calls Tryz.prog 234 #[.string a] b λd c=>d=.returned (.bool (tI a))/\c=b:=by
 go_enter Tryz.func234,Tryz.ntmps234
 go_wp2
 all_goals (go_ret;refine⟨?_,rfl⟩;simp_all [tI,hB])
section
variable {c a g:Nat} {e:List UInt8} {lasq:ByteArray} {f:World}
include c a g e lasq f
def h4 (b:ByteArray)(h:ih c a g e lasq f)(m:e.length+b.size<=100000000) :
  Calls Tryz.prog 235 #[Ve a,.string b] f λk i=>k=.returned (.tuple #[])/\ih c a g (e++b.data.toList) b i/\Kp c a f i:=by
 have r:=Y h.lo;have d:=Y (MB b h m);clear h m;go_enter Tryz.func235,Tryz.ntmps235;go_wp2_with fail;refine YL ?_;rintro k u ⟨rfl,l,q⟩;obtain⟨t,_,n⟩:=l.cells;have s:=n 2;have p:=Y (l.last b);have o:=Y (q.setCell r.out 2 (.string b));clear n;go_wp2
 go_end0
 exact⟨rfl,p.out,o.out⟩
def Wg (h:ih c a g e lasq f)(l:e.length+1<=100000000) :
  Calls Tryz.prog 83 #[Ve a] f λi b=>i=.returned (.tuple #[])/\ih c a g (e++[10]) ⟨#[]⟩ b/\Kp c a f b:=by
 have q:=Y h.lo;have d:=Y (Z4 10 h l);clear h l;go_enter Tryz.func83,Tryz.ntmps83;go_wp2_with fail;refine YL ?_;rintro i t ⟨rfl,k,p⟩;obtain⟨s,_,m⟩:=k.cells;have r:=m 2;have o:=Y (k.last ⟨#[]⟩);have n:=Y (p.setCell q.out 2 (.string ⟨#[]⟩));clear m;go_wp2
 go_end0
 exact⟨rfl,o.out,n.out⟩
end
abbrev WS:=List UInt8 × ByteArray
def VP (a:ByteArray)(b:WS):WS:=(b.1++a.data.toList,a)
def sS (a:WS):WS:=(a.1++[32],a.2)
def me (b:ByteArray)(a:WS):WS:=VP b (if (!qS a.2)&&(!tI b) then sS a else a)
def Qo (c:List ByteArray)(a:WS):WS:=c.foldl (λa b=>me b a) a
def Bb (a:WS):WS:=(a.1++[10],⟨#[]⟩)
def hE (b:List ByteArray):Nat:=(b.map λa=>a.size+1).sum
def aut (a:ByteArray)(b:WS):(me a b).1.length<=b.1.length+(a.size+1):=by
 have:a.data.toList.length=a.size:=rfl;unfold me VP sS
 split <;> simp[this] <;> omega
def ap4 {a:List ByteArray}{b:Nat}(c:b<a.length):hE (a.take b)+(a[b].size+1)+hE (a.drop (b+1))=hE a:=by
 have h:=zalco hE (j3 b a);rw[iD c] at h;simp only[hE,gM,List.sum_append,gW,List.sum_cons] at h ⊢;omega
def auu (a:List ByteArray):a.length<=hE a:=by
 induction a with
 | nil=>simp
 | cons c a b=>simp[hE] at b ⊢;omega
def ap5 (b:List ByteArray):∀ a:WS,(Qo b a).1.length<=a.1.length+hE b:=by
 induction b with
 | nil=>intro a;simp[Qo,hE]
 | cons c b f=>
  intro a;have i:=aut c a;have g:=f (me c a);have e:hE (c::b)=(c.size+1)+hE b:=by simp[hE]
  have d:Qo (c::b) a=Qo b (me c a):=rfl;rw[d,e];omega
def amD {b:List ByteArray}{a:Nat}(d:a<b.length)(c:WS):Qo (b.take (a+1)) c=me b[a] (Qo (b.take a) c):=by
 rw[g3 d];simp only[Qo,iM,k1,List.foldl_nil]
section
variable {g e o:Nat} {c:WS} {f:World} (a:List ByteArray)
include g e o c f a
def lk (n:Nat)(z:Nat)(P:z=a.length)(p:Array Value)(F:p.toList=a.map Value.string)(I:f.heap[n]? = some (.cells p 9 (0,0)))(am:n≠e)(h:ih g e o c.1 c.2 f)(aF:c.1.length+hE a<=100000000) :
  Calls Tryz.prog 167 #[Ve e,.slice (some ⟨n,0,none⟩) z z] f λi C=>i=.returned (.tuple #[])/\ih g e o (Qo a c).1 (Qo a c).2 C/\Kp g e f C:=by
 subst P;have ay:a.length<=100000000:=by have:=auu a;omega
 have ah:=Y I;have L:=Y h;clear I h;have H:∀ b (u:b<a.length),p[b]? = some (.string a[b]):=by
  intro b u;rw[<-k6,F];simp[u]
 have ap:=Y H;clear H F;go_enter Tryz.func167,Tryz.ntmps167;go_wp2_with fail
 go_loopw [8] (λw wr=>∃ b:Nat,b<=a.length/\w=.int .i64 b/\ih g e o (Qo (a.take b) c).1 (Qo (a.take b) c).2 wr/\Kp g e f wr) (λw _=>a.length - (intOf w).toNat)
 case atStart=>exact⟨0,f3 _,rfl,L.out,Kp.refl _ _ _⟩
 case round=>
  obtain⟨b,u,rfl,aj,U⟩:=hrel;have k:=Y aj;have s:=Y U
  by_cases v:b<a.length
  ·have R:=ap4 v;have T:=ap5 (a.take b) c;have E:wr.heap[n]? = some (.cells p 9 (0,0)):=s.out.kept n _ ah.out (by simpa using am) (by intro q M i;cases i)
   have ac:wr.cell? ⟨n,b,none⟩=some (.string a[b]):=by rw[Lib.cell_of_heap E];exact O4 ap b v
   have t:=Y (amD v c)
   generalize ad:Qo (a.take b) c=S at k t T
   clear ad;have W:=Y (amB k.out);obtain⟨d,D⟩:∃ d,d=a[b]:=⟨_,rfl⟩;rw[<-D] at ac t R;clear D E;go_wp2_with fail;refine cm W.out ?_;rintro i au ⟨rfl,rfl⟩;have aD:d.data.toList.length=d.size:=rfl
   cases m:qS S.2 with
   | true=>
    have l:=Y (h4 d k.out O9);have HP:Hid (me d S=VP d S):=by unfold me;rw[m];rfl
    clear m;go_wp2_with fail;refine cm l.out ?_;rintro i ax ⟨rfl,r,j⟩;exact Jj
   | false=>
    have l:=Y (N5 d au);go_wp2_with fail;refine cm l.out ?_;rintro i ax ⟨rfl,rfl⟩
    cases q:tI d with
    | true=>
     have l:=Y (h4 d k.out O9);have HP:Hid (me d S=VP d S):=by unfold me;rw[m,q];rfl
     clear m q;go_wp2_with fail;refine cm l.out ?_;rintro i O ⟨rfl,r,j⟩;exact Jj
    | false=>
     have l:=Y (Z4 32 k.out O9);have HP:Hid (me d S=VP d (sS S)):=by unfold me;rw[m,q];rfl
     clear m q;go_wp2_with fail;refine cm l.out ?_;rintro i O ⟨rfl,r,j⟩;have A:=Y r;have B:=Y (s.out.trans j);clear j;have X:=Y (h4 d A.out RQ);go_wp2_with fail;refine cm X.out ?_;rintro i aC ⟨rfl,N,M⟩;have ak:=Y N;have ai:=Y (B.out.trans M);go_wp2
     go_roundw
     case rel=>exact⟨b+1,by omega,by go_num,by rw[t.out,HP.out];exact ak.out,ai.out⟩
     case measure=>simp[intOf];omega
  ·have j:b=a.length:=O9;subst j;rw[gO] at k;go_wp2
   go_end0
   exact⟨rfl,k.out,s.out⟩
def BK (b:Nat)(l:b=a.length)(i:Array Value)(m:i.toList=a.map Value.string)(h:ih g e o c.1 c.2 f)(p:c.1.length+hE a<=100000000) :
  Calls Tryz.prog 167 #[Ve e,.slice (some ⟨f.heap.size,0,none⟩) b b] (f.alloc (.cells i 9)) λj d=>j=.returned (.tuple #[])/\ih g e o (Qo a c).1 (Qo a c).2 d/\Kp g e f d:=by
 have q:=h.lt;have r:=h.lo;refine(lk a f.heap.size b l i m (Ph _ _) O9 (h.gx λk j=>Below.heap_alloc f _ k j) p).mono ?_;rintro j d ⟨rfl,n,k⟩;exact⟨rfl,n,((Kp.refl g e f).alloc O9 _).trans k⟩
end
def t8 (a:(Int × Value) × Nat):MapEntry:={ key:=.int .i64 a.1.1,val:=a.1.2,born:=a.2 }
def kR (a:List (Int × Value)):Array MapEntry:=((a.zipIdx).map t8).toArray
def rC:Array MapEntry:=kR (ZH.map λa=>(a.kd,jG a))
def oO (b:Int):Option Sg:=ZH.find? (λa=>decide (b=a.kd))
def v6 (b:Int):∀ (d:List (Int × Value)) (e c:Nat),
  ∃ f,Instr.findNow (.int .i64) (.int .i64 b) ((d.zipIdx e).map t8) c=some f/\f.map (·.2)=(d.find? (λa=>decide (b=a.1))).map (·.2)
 | [],e,c=>⟨none,rfl,rfl⟩
 | a::d,e,c=>by
  have g:(b==a.1)=decide (b=a.1):=rfl;simp only[k9,gW,Instr.findNow,t8,Instr.sameNow,hz,g,kk]
  cases h:decide (b=a.1)
  ·simp only;exact v6 b d (e+1) (c+1)
  ·exact⟨some (c,a.2),rfl,rfl⟩
def akv (m o:TypeId)(l g:Nat)(b:List (Int × Value))(c:Int)(n:Value)(a:World)(u:Tryz.prog.underlying m=some (.map 3 o))(t:a.heap[l]? = some (.map (kR b) g))(p:(zeroValue o).run Tryz.prog a=.ok n a) :
  (Instr.lookup m (.map (some l)) (.int .i64 c) true).run Tryz.prog a=.ok (.tuple #[((b.find? (λd=>decide (c=d.1))).map (·.2)).getD n,.bool (b.find? (λd=>decide (c=d.1))).isSome]) a:=by
 obtain⟨k,v,e⟩:=v6 c b 0 0;have j:=zalev;have q:(Instr.findKey 3 (.int .i64 c) (kR b).toList).run Tryz.prog a=.ok k a:=by
  refine sy ?_;simp only[hM,kR];rw[v];rfl
 unfold Instr.lookup;rw[gR,ho u a];have r:∀ f,(Instr.checkKey f 10000 3 (.int .i64 c)).run Tryz.prog a=.ok () a:=tL
 have s:(getObj l).run Tryz.prog a=.ok (.map (kR b) g) a:=by simp[getObj,Sem.run,t]
 exact Hk
def PP (a:List (Int × Value))(b:Int)(c:Value):(kR a).push { key:=.int .i64 b,val:=c,born:=a.length }=kR (a++[(b,c)]):=by
 unfold kR;rw[lJ,gM];simp[t8,List.zipIdx]
def Rc (m u:TypeId)(d:Nat)(b:List (Int × Value))(c:Int)(o:Value)(a:World)(q:Tryz.prog.underlying m=some (.map 3 u))(n:a.heap[d]? = some (.map (kR b) b.length))(l:b.find? (λe=>decide (c=e.1))=none) :
  (Instr.mapUpdate m (.map (some d)) (.int .i64 c) o).run Tryz.prog a=.ok () (Rn a d (.map (kR (b++[(c,o)])) (b.length+1))):=by
 obtain⟨k,s,e⟩:=v6 c b 0 0;have j:=zalev;have i{G}(h:G:=by
 have p:(Instr.findKey 3 (.int .i64 c) (kR b).toList).run Tryz.prog a=.ok none a:=by
  refine sy ?_;simp only[hM,kR];rw[s];rfl
 have r:∀ f,(Instr.checkKey f 10000 3 (.int .i64 c)).run Tryz.prog a=.ok () a:=tL
 have t:(getObj d).run Tryz.prog a=.ok (.map (kR b) b.length) a:=by simp[getObj,Sem.run,n]
 unfold Instr.mapUpdate;rw[gR,ho q a];simp only[hM,gR,t,r,p];rw[PP];simp[setObj,Sem.run,n,Rn]):=O6 h;exact vR
def nr (b:Nat):List (Int × Value):=(ZH.take b).map λa=>(a.kd,jG a)
def Bh {a:Nat}(b:a<=14):(nr a).length=a:=by
 unfold nr;rw[gu,hC];have:ZH.length=14:=rfl;omega
def Vc {a:Nat}(b:a<14):nr (a+1)=nr a++[((ZH.getD a ⟨O8,0,0,0⟩).kd,jG (ZH.getD a ⟨O8,0,0,0⟩))]:=L5
def aus {a:Nat}(c:a<14):(nr a).find? (λb=>decide ((ZH.getD a ⟨O8,0,0,0⟩).kd=b.1))=none:=by
 have d:∀ a,a<14->((ZH.take a).map (·.kd)).find? (λb=>decide ((ZH.getD a ⟨O8,0,0,0⟩).kd=b))=none:=by decide +kernel
 have:=d a c;unfold nr;rw[jM] at this ⊢;simpa[jH] using this
section
variable (a:World) (f:TypeId) (e:Nat × Nat) (c:a.heap[3]? = some (.cells U2 f e))
include a f e c
def S4 :
  Calls Tryz.prog 166 #[] a λB o=>B=.returned (.map (some a.heap.size))/\o.heap[a.heap.size]? = some (.map rC 14)/\Below a.heap.size a o:=by
 have u:Hid ((a.alloc (.map #[] 0)).heap[3]? = some (.cells U2 f e)):=(gd a _ 3 (fI c)).trans c;obtain⟨d,j⟩:∃ d,d=U2:=⟨_,rfl⟩;have v:∀ n:Nat,n<14->∀ p,(Instr.index 276 (.agg d) (.int .i64 (n:Int))).run Tryz.prog p=.ok (jG (ZH.getD n ⟨O8,0,0,0⟩)) p:=by rw[j];exact I6
 have r:d.size=56:=by rw[j];exact Gw
 rw[<-j] at u;have D:=Y v;have C:=Y r;have F:=mkMap 172;clear c v j r;go_enter Tryz.func166,Tryz.ntmps166
 go_wp2_with (refine jJ rfl 276 _ rfl 3 rfl f d e _ u.out Tryz.underlying276 rfl (by rw[C.out];kernel_rfl) ?_)
 go_loopw [6] (λm wr=>∃ b:Nat,b<=14/\m=.int .i64 b/\wr.heap[a.heap.size]? = some (.map (kR (nr b)) b)/\Below a.heap.size a wr) (λm _=>14 - (intOf m).toNat)
 case atStart=>exact⟨0,f3 _,rfl,Ph _ _,(f2 _ _).alloc (g9 _) _⟩
 case round=>
  obtain⟨b,E,rfl,q,z⟩:=hrel;have l:=Y q;have i:=Y z;clear q
  by_cases k:b<14
  ·have t:=O4 D b k;obtain⟨x,g⟩:∃ x,x=ZH.getD b ⟨O8,0,0,0⟩:=⟨_,rfl⟩;have s:(wr.alloc (.cells #[.string x.tx,.int .i64 x.kd,.int .i64 x.parts,.int .i64 x.str] 275)).heap[a.heap.size]? = some (.map (kR (nr b)) (nr b).length):=by
    rw[Bh O9];exact(gd _ _ _ (fI l.out)).trans l.out
   have w:=Rc 172 275 a.heap.size (nr b) x.kd (jG x) _ Tryz.underlying172 s (by rw[g];exact aus k)
   rw[<-g] at t;have A:=Y g;simp only[jG] at t w;clear g s;go_wp2
   go_roundw
   case rel=>
    refine⟨b+1,by omega,by go_num,?_,WY (i.out.alloc i.out.size _) (g9 _)⟩;rw[Xc (by simp;have:=i.out.size;omega),Vc k,<-A.out,Bh O9]
    rfl
   case measure=>simp[intOf];omega
  ·have g:b=14:=O9;subst g;go_wp2;go_ret;exact⟨rfl,l.out,i.out⟩
def afl :
  Calls Tryz.prog 81 #[] a λn b=>∃ i l,n=.returned (Ve i)/\ih a.heap.size i l [] ⟨#[]⟩ b/\b.heap[l]? = some (.map rC 14)/\l≠i/\Below a.heap.size a b:=by
 have d:=Y (S4 a f e c);clear c;go_enter Tryz.func81,Tryz.ntmps81;go_wp2_with fail;refine YL ?_;rintro n o ⟨rfl,g,p⟩;have q:=Y g;have k:=Y p;have m:=Y (fI g);clear g;go_wp2;go_ret;refine⟨o.heap.size,a.heap.size,rfl,fM ⟨k.out.size,Q8,Ph _ _,⟨rfl,fM ⟨rfl,rfl⟩⟩,by simp[Value.ownBlock]⟩,?_,?_,k.out.alloc k.out.size _⟩
 ·rw[gd o _ _ m.out];exact O4 q
 ·have:=O4 m;omega
end
def Zo (a:Int):Int:=if a=24 then 1 else if a=35\/a=36 then 9 else match oO a with|some b=>b.str|none=>10
def YG (c:Nat)(a:Int)(b:World)(h:b.heap[c]? = some (.map rC 14)) :
  (Instr.lookup 172 (.map (some c)) (.int .i64 a) true).run Tryz.prog b=.ok (.tuple #[ml (oO a),.bool (oO a).isSome]) b:=by
 rw[akv 172 275 c 14 _ a n5 b Tryz.underlying172 h Qs];unfold oO;rw[jM];simp only[jH]
 cases ZH.find? (λd=>decide (a=d.kd)) <;> rfl
def UF {r o c:Nat}{u:List UInt8}{lasq:ByteArray}{b:World}(h:ih r o c u lasq b)(d:b.heap[c]? = some (.map rC 14))(j:Nat)(a:Int)(B:b.cell? ⟨j,0,none⟩=some (.int .i64 a))(D:j<b.heap.size) :
  Calls Tryz.prog 283 #[Ve o,O5 j] b λt q=>t=.returned (.int .i64 (Zo a))/\Below b.heap.size b q:=by
 obtain⟨_,C,_⟩:=h.cells;have E:=h.lt;have s:=fI d;clear h
 by_cases g:a=24
 ·subst g;exact ze
 ·have w:(a==24)=false:=gG.2 g
  by_cases k:a=35
  ·subst k;exact ze
  ·have z:(a==35)=false:=gG.2 k
   by_cases i:a=36
   ·subst i;exact ze
   ·have A:(a==36)=false:=gG.2 i;have n:Zo a=match oO a with|some v=>v.str|none=>10:=by
     unfold Zo;rw[fK g,fK O9]
    have e:=YG c a b.drew d;have f:=λp=>YG c a (b.alloc p).drew ((gd b p c s).trans d);have m:=Y n;clear d g k i n
    cases l:oO a with
    | none=>
     rw[l] at e f m;simp only[ml,n5,Option.isSome_none] at e f;exact Fo
    | some x=>
     rw[l] at e f m;simp only[ml,jG,Option.isSome_some] at e f;exact Fo
def NQ:Tr:=.mk 0 O8 0 []
def Tr.gK (b:Tr)(a:Nat):Tr:=b.fJ.getD a NQ
def UN (a:Int):ByteArray:=⟨(Lib.itoa a).toArray⟩
def aC2 (a:UInt8):List UInt8:=if a=10 then [92,110] else if a=39\/a=92 then [92,a] else [a]
def aC3 (a:List UInt8):List UInt8:=[39]++a.flatMap aC2++[39]
def W7 (a:ByteArray):ByteArray:=⟨(aC3 a.data.toList).toArray⟩
def tp (b:Int):ByteArray:=((hv.find? (λa=>decide (a.2=b))).map (·.1)).getD O8
structure WF where
 vl:Tr->Int->WS->WS
 st:Tr->WS->WS
section
variable (b:WF)
def GS (c:Tr)(a:WS):WS:=Qo [Tt] (b.vl c 1 (Qo [Rz] a))
def wv:Bool->List Tr->WS->WS
 | _,[],a=>a
 | c,d::e,a=>wv false e (b.vl d 1 (if c then a else Qo [XK] a))
def EY (a shut:ByteArray)(d:List Tr)(c:WS):WS:=Qo [shut] (wv b true d (VP a c))
def ayb (c:Tr)(a:WS):WS:=Qo [V5] (wv b true c.fJ (Qo [TT] a))
def N9 (d:List Tr)(a:WS):WS:=d.foldl (λa c=>b.st c a) a
def Oy (d:List Tr)(a:WS):WS:=d.foldl (λa c=>b.vl c 1 a) a
def q7 (c:Tr)(a:WS):WS:=Qo [V5] (N9 b c.fJ (Qo [TT] a))
def Ch (a:Tr)(c:WS):WS:=
 q7 b (a.gK 1) (EY b Rz Tt (a.gK 0).fJ (if a.tx=O8 then Qo [QL] c else Qo [a.tx] (Qo [QL] c)))
def ayc (d:Tr)(a:Sg)(c:WS):WS:=
 if a.parts=2 then b.vl (d.gK 1) (a.str+1) (Qo [a.tx] (b.vl (d.gK 0) a.str c))
 else if a.parts=1 then b.vl (d.gK 0) a.str (Qo [a.tx] c)
 else Qo [a.tx] c
def S7 (a:Tr)(c:WS):WS:=
 match oO a.kd with
 | some d=>ayc b a d c
 | none=>
  if a.kd=17 then Qo [UN a.n] c
  else if a.kd=18 then Qo [W7 a.tx] c
  else if a.kd=23 then Qo [a.tx] c
  else if a.kd=24 then b.vl (a.gK 1) 1 (Qo [iX] (b.vl (a.gK 0) 9 c))
  else if a.kd=36 then Qo [rI,a.tx] (b.vl (a.gK 0) 9 c)
  else if a.kd=35 then EY b Rz Tt (a.fJ.drop 1) (b.vl (a.gK 0) 9 c)
  else if a.kd=37 then Ch b a c
  else if a.kd=38 then ayb b a c
  else if a.kd=39 then b.vl (a.gK 0) 1 (Qo [a.tx,rB] c)
  else c
def aC5 (a:Tr)(least:Int)(c:WS):WS:=if Zo a.kd<least then GS b a c else S7 b a c
def Ct (c:Tr)(a:WS):WS:=Qo [Q9] (Oy b c.fJ a)
def ayd (a:Tr)(c:WS):WS:=
 let s2:=b.st (a.gK 1) (Qo [Tt] (b.vl (a.gK 0) 1 (Qo [tp a.kd,Rz] c)))
 if 2<a.fJ.length then b.st (a.gK 2) (Qo [pP] s2) else s2
def SD (a:Tr)(c:WS):WS:=
 if a.kd=6 then q7 b a c
 else if a.kd=13 then q7 b (a.gK 0) (Qo [VT,Rz,a.tx,Tt] c)
 else if a.kd=14 then q7 b (a.gK 0) (Qo [SS] c)
 else c
def Mq (d:Tr)(a:WS):WS:=d.fJ.foldl (λa c=>SD b c a) (Qo [md] a)
end
def pF (a:Int):Bool:=a==24||a==36||a==35||a==25||a==26||a==27||a==28||a==29||a==30||a==31
def UK:Nat->Tr->Bool
 | 0,_=>false
 | b+1,a=>
  if a.kd=37\/a.kd=38 then true
  else if pF a.kd=true then (if Zo (a.gK 0).kd<Zo a.kd then false else UK b (a.gK 0))
  else false
section
variable (c:WF)
def S1 (a:Tr)(b:WS):WS:=Qo [Q9] (if UK (a.gK 0).count (a.gK 0) then GS c (a.gK 0) b else c.vl (a.gK 0) 1 b)
def aC6 (a:WS):WS:=VP Q9 (if qS a.2 then a else sS a)
def T5 (a:Tr)(b:WS):WS:=
 if a.kd=2\/a.kd=3\/a.kd=4 then Ct c a (if 0<a.fJ.length then Qo [iX] (Qo [tp a.kd,a.tx] b) else Qo [tp a.kd,a.tx] b)
 else if a.kd=10\/a.kd=11 then Ct c a (Qo [tp a.kd] b)
 else if a.kd=5 then Ch c a b
 else if a.kd=6 then q7 c a b
 else if a.kd=7\/a.kd=8\/a.kd=9 then ayd c a b
 else if a.kd=12 then Mq c a b
 else if a.kd=15 then S1 c a b
 else if a.kd=16 then aC6 b
 else b
end
def wf:Nat->WF
 | 0=>⟨λ_ _ a=>a,λ_ a=>a⟩
 | a+1=>⟨aC5 (wf a),T5 (wf a)⟩
mutual
def Tr.cost:Tr->Nat
 | .mk _ b _ a=>80+3 * b.size+Tr.oZ a
def Tr.oZ:List Tr->Nat
 | []=>0
 | a::b=>a.cost+Tr.oZ b
end
def kY (a : World) : Prop := Lib.TabIs Tryz.prog a "internal/strconv.uint64pow10" .u64 Lib.pow10Tab
def DD : Tryz.prog.globalNamed "internal/strconv.uint64pow10" = some 8 := by kernel_rfl
def kY.fR {a w':World}(h:kY a)(b:w'.heap[8]? = a.heap[8]?):kY w':=by
 unfold kY Lib.TabIs World.var? at h ⊢;rw[DD] at h ⊢;simp only[m5] at h ⊢;rw[b];exact h
def kY.lt {b:World}(h:kY b):8<b.heap.size:=by
 unfold kY Lib.TabIs World.var? at h;rw[DD] at h;simp only[m5] at h
 rcases hT 8 b.heap.size with a|a
 ·exact a
 ·rw[jB a] at h;simp at h
def kY.fH {w w':World}(h:kY w)(a:Below w.heap.size w w'):kY w':=h.fR (a.block 8 h.lt)
def aqA (b:Int)(d:-9223372036854775808<=b/\b<=9223372036854775807)(a:World)(g:kY a):Calls Tryz.prog 133 #[.int .i64 b] a λe c=>e=.returned (.string (UN b))/\Below a.heap.size a c:=by
 exact(Tryz.strconv_Itoa b d.1 d.2 a g).mono λe c ⟨f,j,k,i⟩=>⟨f,by rw[i];exact Lib.below_grow _ a (g9 _) j k⟩
structure Wt (B b m:Nat)(s:WS)(w:World):Prop where
 wr:ih B b m s.1 s.2 w
 gJ:w.heap[m]? = some (.map rC 14)
 ne:m≠b
 hI:4<B/\∃ t fr,w.heap[4]? = some (.cells Vp t fr)
 nE:8<B/\kY w
section
variable {a c b:Nat}
include a c b
def Wt.gx {i:WS}{f g:World}(h:Wt a c b i f)(d:∀ e,e<f.heap.size->g.heap[e]? = f.heap[e]?):Wt a c b i g:=
 ⟨h.wr.gx d,by rw[d b (fI h.gJ)];exact h.gJ,h.ne,⟨h.hI.1,by
  obtain⟨k,j,e⟩:=h.hI.2;exact⟨k,j,by rw[d 4 (fI e)];exact e⟩⟩,h.nE.1,h.nE.2.fR (d 8 h.nE.2.lt)⟩
def Wt.alloc {f:WS}{d:World}(h:Wt a c b f d)(e:Obj):Wt a c b f (d.alloc e):=h.gx λi g=>gd d e i g
def Wt.drew {d:WS}{e:World}(h:Wt a c b d e):Wt a c b d e.drew:=h.gx λ_ _=>rfl
def Wt.below {f:WS}{d e:World}(h:Wt a c b f d)(i:Below d.heap.size d e):Wt a c b f e:=h.gx λj g=>i.block j g
def Wt.fH {j d:WS}{w w':World}(h:Wt a c b j w)(i:ih a c b d.1 d.2 w')(e:Kp a c w w'):Wt a c b d w':=
 ⟨i,e.kept b _ h.gJ (by simpa using h.ne) (by intro g k f;cases f),h.ne,⟨h.hI.1,by
  obtain⟨k,g,f⟩:=h.hI.2;exact⟨k,g,by rw[e.below.block 4 h.hI.1];exact f⟩⟩,h.nE.1,h.nE.2.fR (e.below.block 8 h.nE.1)⟩
def Wt.size {e:WS}{d:World}(h:Wt a c b e d):a<=d.heap.size:=by have g:=h.wr.lt;have f:=h.wr.lo;omega
end
def Kp.of {B b:Nat}{a c:World}(e:B<=a.heap.size)(h:Below a.heap.size a c):Kp B b a c:=
 ⟨h.mono e,λf g d _ _=>by rw[h.block f (fI d)];exact d⟩
def NB (a:Nat)(e:World)(d:Tr)(c:Nat):Prop:=Qa (λb=>b<a) e d c
def NB.fH {a:Nat}{w w':World}{c:Tr}{b:Nat}(h:NB a w c b)(e:Below a w w'):NB a w' c b:=Qa.fH (λf d _=>e.block f d) _ _ h
section
variable {e:Nat} {b:World} {a:Tr} {d:Nat} (h:NB e b a d)
include e b a d h
def NB.lt:d<e:=by
 cases a with
 | mk c i g f=>
  unfold NB at h;rw[Qa] at h;exact h.1
def NB.cells:b.cell? ⟨d,0,none⟩=some (.int .i64 a.kd)/\b.cell? ⟨d,1,none⟩=some (.string a.tx)/\b.cell? ⟨d,2,none⟩=some (.int .i64 a.n):=by
 obtain⟨k,j,c,_⟩:=Qa.Uf h;obtain⟨g,i,f,_⟩:=fZ c;exact⟨g,i,f⟩
def NB.row (u:0<a.fJ.length) :
  ∃ (f i:Nat) (g:List Nat),b.cell? ⟨d,3,none⟩=some (.slice (some ⟨f,0,none⟩) a.fJ.length i)/\f<e/\g.length=a.fJ.length/\∀ c (k:c<a.fJ.length) (m:c<g.length),b.cell? ⟨f,c,none⟩=some (O5 g[c])/\NB e b a.fJ[c] g[c]:=by
 obtain⟨v,g,o,p,s,j⟩:=Qa.Uf h;obtain⟨_,_,_,l,_⟩:=fZ o;have n:=PE.length _ _ j;obtain⟨f,i,rfl,q⟩:=TG p O9;rw[n] at l;refine⟨f,i,g,l,s f rfl,n,λc k m=>⟨q c m,?_⟩⟩;obtain⟨t,r⟩:=PE.get _ _ j c k;exact r
def NB.rowLen:∃ c f,b.cell? ⟨d,3,none⟩=some (.slice c a.fJ.length f):=by
 obtain⟨o,n,i,j,m,g⟩:=Qa.Uf h;obtain⟨_,_,_,l,_⟩:=fZ i;obtain⟨c,f,k⟩:=TK j;exact⟨c,f,by rw[l,k,PE.length _ _ g]⟩
def NB.gK (f:Nat)(k:f<a.fJ.length) :
  ∃ c g i,b.cell? ⟨d,3,none⟩=some (.slice (some ⟨c,0,none⟩) a.fJ.length g)/\c<e/\b.cell? ⟨c,f,none⟩=some (O5 i)/\NB e b a.fJ[f] i:=by
 obtain⟨c,g,q,o,j,p,l⟩:=h.row O9;obtain⟨n,m⟩:=l f k O9;exact⟨c,g,_,o,j,n,m⟩
end
def n2 (b c e:Nat)(f:WS)(g:World)(d:Ending)(a:World):Prop:=d=.returned (.tuple #[])/\Wt b c e f a/\Kp b c g a
def p0 {j c p:Nat}{a:WS}{b e:World}(d:List ByteArray)(f i:Nat)(r:i=d.length)(k:Array Value)(s:k.toList=d.map Value.string)(o:e.heap[f]? = some (.cells k 9 (0,0)))(h:Wt j c p a e)(q:Kp j c b e)(t:a.1.length+hE d<=100000000) :
  Calls Tryz.prog 167 #[Ve c,.slice (some ⟨f,0,none⟩) i i] e (n2 j c p (Qo d a) b):=by
 have u:f≠c:=by
  intro n;subst n
  rcases h.wr with g|g <;>
  ·obtain⟨_,w,l,_⟩:=g;rw[o] at l;simp at l
 refine(lk d f i r k s o u h.wr t).mono ?_;rintro n v ⟨rfl,g,m⟩;exact⟨rfl,h.fH g m,q.trans m⟩
def qh {c:World}{b:Obj}{a:Nat}(d:a=c.heap.size):(c.alloc b).heap[a]? = some b:=by subst d;exact Ph _ _
def VC (b c d:Nat)(i:Tr)(least:Int)(g f:WS):Prop:=
 ∀ a e,Wt b c d g a->NB b a i e->Calls Tryz.prog 236 #[Ve c,O5 e,.int .i64 least] a (n2 b c d f a)
def SC (b c d:Nat)(i:Tr)(g f:WS):Prop:=
 ∀ a e,Wt b c d g a->NB b a i e->Calls Tryz.prog 82 #[Ve c,O5 e] a (n2 b c d f a)
def h5 {i j c:Nat}{k:WS}{a:World}(b:Int)(h:Wt i j c k a)(g:oO b=none) :
  (Instr.lookup 172 (.map (some c)) (.int .i64 b) true).run Tryz.prog a.drew=.ok (.tuple #[.agg #[.string ⟨#[]⟩,.int .i64 0,.int .i64 0,.int .i64 0],.bool false]) a.drew
  /\ ∀ d,(Instr.lookup 172 (.map (some c)) (.int .i64 b) true).run Tryz.prog (a.alloc d).drew=.ok (.tuple #[.agg #[.string ⟨#[]⟩,.int .i64 0,.int .i64 0,.int .i64 0],.bool false]) (a.alloc d).drew:=by
 have f:=YG c b a.drew h.gJ;have e:=λd=>YG c b (a.alloc d).drew (h.alloc d).gJ;rw[g] at f e;exact⟨f,e⟩
section
variable {a b B:Nat} (z:ByteArray) (v:Int) (H:List Tr) (least:Int) (s:WS) (am:¬ (10:Int)<least)
include a b B z v H least s am
def Z8 (M:s.1.length+hE [z]<=100000000) :
  VC a b B (.mk 23 z v H) least s (Qo [z] s):=by
 have e{G}(h:G:=by
 go_enter lA,lv;have E:Zo 23=10:=by decide +kernel
 have d:=Y (UF m.out.wr m.out.gJ u 23 i l);have e{G}(h:G:=by
 obtain⟨P,W⟩:=h5 23 g.out (by decide +kernel);have ak{G}(h:G:=by
 have C:=Y (g.out.alloc (.cells #[.string ⟨#[]⟩,.int .i64 0,.int .i64 0,.int .i64 0] 275));have I:=Y (F.out.alloc g.out.size (.cells #[.string ⟨#[]⟩,.int .i64 0,.int .i64 0,.int .i64 0] 275));go_wp2_with fail
 go_region
 go_wp2_with fail;refine cm (p0 (a:=s) (b:=f) [z] _ 1 rfl #[.string z] rfl (by exact qh P7) (by exact(C.out.alloc _).drew) (by exact(I.out.alloc C.out.size _).drew) M) ?_;exact Fc):=O6 h;exact Bo):=O6 h;exact uX):=O6 h;exact qO
def iA (k:∀ d:World,Wt a b B s d->Calls Tryz.prog 133 #[.int .i64 v] d λc e=>c=.returned (.string (UN v))/\Below d.heap.size d e)(ah:s.1.length+hE [UN v]<=100000000) :
  VC a b B (.mk 17 z v H) least s (Qo [UN v] s):=by
 have A:=Y k;clear k;have e{G}(h:G:=by
 go_enter lA,lv;have E:Zo 17=10:=by decide +kernel
 have d:=Y (UF m.out.wr m.out.gJ u 17 i l);have e{G}(h:G:=by
 obtain⟨M,ad⟩:=h5 17 g.out (by decide +kernel);have e{G}(h:G:=by
 have d:=Y (A.out (n.alloc (.cells #[.string ⟨#[]⟩,.int .i64 0,.int .i64 0,.int .i64 0] 275)).drew C.out);go_wp2_with fail
 go_region
 go_wp2_with fail;refine YL ?_;rintro c ap ⟨rfl,D⟩;have r:=Y (C.out.below D);have ac:=Y (P.out.trans (Kp.of (b:=b) C.out.size D));clear i p q l R S U T M ad;go_wp2_with fail;refine cm (p0 (a:=s) (b:=f) [UN v] _ 1 rfl #[.string (UN v)] rfl (by exact qh P7) (by exact r.out.alloc _) (by exact ac.out.alloc r.out.size _) ah) ?_;intro c au I;obtain⟨rfl,N,O⟩:=I;have aj:=Y N;have ai:=Y O;go_wp2
 go_end0
 exact⟨rfl,aj.out,ai.out⟩):=O6 h;exact yi):=O6 h;exact uX):=O6 h;exact qO
end
def LW {a b N:Nat}(aV:ByteArray)(aQ:Int)(H M:Tr)(aO:List Tr)(least:Int)(ah B s2:WS)(bf:¬ (1:Int)<least)(aJ:VC a b N H 9 ah B)(w:VC a b N M 1 (Qo [iX] B) s2)(aL:B.1.length+hE [iX]<=100000000) :
  VC a b N (.mk 24 aV aQ (H::M::aO)) least ah s2:=by
 have a1:=Y aJ;have aI:=Y w;clear w;have e{G}(h:G:=by
 go_enter lA,lv;have E:Zo 24=1:=by decide +kernel
 have d:=Y (UF m.out.wr m.out.gJ u 24 i l);have e{G}(h:G:=by
 obtain⟨aD,aK⟩:=h5 24 g.out (by decide +kernel);have e{G}(h:G:=by
 obtain⟨aG,a8,I,O,aF,ay,aU⟩:=(o.out.fH F.out.below).gK 0 (by simp[Tr.fJ]);simp only[Tr.fJ,gL] at O;have aW:Hid (NB a n H I):=aU;have aj:aG<n.heap.size:=by have t:=g.out.size;simp at t ⊢;omega
 have aZ:Hid (NB a (n.alloc (.cells #[.string ⟨#[]⟩,.int .i64 0,.int .i64 0,.int .i64 0] 275)).drew H I):=aW.out.fH (((f2 a n).alloc g.out.size (.cells #[.string ⟨#[]⟩,.int .i64 0,.int .i64 0,.int .i64 0] 275)).drew);have d:=Y (a1.out (n.alloc (.cells #[.string ⟨#[]⟩,.int .i64 0,.int .i64 0,.int .i64 0] 275)).drew I C.out aZ.out);go_wp2_with fail
 go_region
 go_wp2_with fail;refine YL ?_;intro c bc v;obtain⟨rfl,z,A⟩:=v;have ad:=Y z;have aN:=Y (P.out.trans A);clear i p q l R S U T aD aK O aF ay aj;go_wp2_with fail;refine cm (p0 (a:=B) (b:=f) [iX] _ 1 rfl #[.string iX] rfl (by exact qh P7) (by exact ad.out.alloc _) (by exact aN.out.alloc ad.out.size _) aL) ?_;intro c k v;obtain⟨rfl,z,A⟩:=v;have s:=Y z;have r:=Y A;have e{G}(h:G:=by
 obtain⟨aY,ba,ai,ac,au,aC,am⟩:=(o.out.fH r.out.below).gK 1 (by simp[Tr.fJ]);simp only[Tr.fJ,gL] at ac;have ap:Hid (NB a k M ai):=am;have ax:aY<k.heap.size:=by have t:=s.out.size;simp at t ⊢;omega
 have d:=Y (aI.out k ai s.out ap.out);go_wp2_with fail;refine YL ?_;intro c be v;obtain⟨rfl,z,A⟩:=v;have aX:=Y z;have aS:=Y (r.out.trans A);clear i p q l ac au aC ax;go_wp2
 go_end0
 exact⟨rfl,aX.out,aS.out⟩):=O6 h;exact Hq):=O6 h;exact yi):=O6 h;exact uX):=O6 h;exact qO
def vc (a:Int):Nat:=
 if a=24\/(25<=a/\a<=31)\/a=37\/a=5\/a=7\/a=8\/a=9 then 2
 else if (32<=a/\a<=36)\/a=39\/a=15\/a=13\/a=14 then 1 else 0
mutual
def lV:Tr->Prop
 | .mk b _ _ a=>vc b<=a.length/\n1 a
def n1:List Tr->Prop
 | []=>True
 | a::b=>lV a/\n1 b
end
def lV.hr {a:Tr}(h:lV a):vc a.kd<=a.fJ.length:=by
 cases a with
 | mk b e d c=>rw[lV] at h;exact h.1
def n1.get:∀ {c:List Tr},n1 c->∀ a (b:a<c.length),lV c[a]
 | [],_,a,b=>absurd b P7
 | d::c,h,a,b=>by
  rw[n1] at h
  cases a with
  | zero=>exact h.1
  | succ a=>exact n1.get h.2 a (by simpa using b)
def lV.fJ {a:Tr}(h:lV a):n1 a.fJ:=by
 cases a with
 | mk b e d c=>rw[lV] at h;exact h.2
section
variable {a:Tr} {b:Nat} (c:b<a.fJ.length)
include a b c
def yK:a.gK b=a.fJ[b]:=by
 unfold Tr.gK;rw[g8,ga c];rfl
def OX:a.fJ[b].count+1<=a.count:=by
 cases a with
 | mk e g f d=>
  have:=TF d b c;rw[fW];simp only[Tr.fJ];omega
end
def Rr {a:Int}(h:pF a=true):a=24\/a=36\/a=35\/a=25\/a=26\/a=27\/a=28\/a=29\/a=30\/a=31:=by
 unfold pF at h;simpa[or_assoc] using h
def amA {a:Int}(h:¬ pF a=true):a≠24/\a≠36/\a≠35/\a≠25/\a≠26/\a≠27/\a≠28/\a≠29/\a≠30/\a≠31:=by
 unfold pF at h;simpa[not_or,and_assoc] using h
def KM (b:Int):1<=Zo b/\Zo b<=10:=by
 have d:∀ a ∈ ZH,1<=a.str/\a.str<=10:=by decide +kernel
 unfold Zo
 split
 ·omega
 ·split
  ·omega
  ·split
   ·rename_i a c
    exact d a (h7 c)
   ·omega
def OB {t z ad:Nat}{ah:WS}{g:World}(b:Tr)(F:Nat)(k:Wt t z ad ah g)(r:NB t g b F)(H:lV b) :
  Calls Tryz.prog 238 #[Ve z,O5 F] g λC aj=>C=.returned (.bool (UK b.count b))/\Below g.heap.size g aj:=by
 have aG:=Y k;have aD:=Y r;have aI:=Y H;go_enter Tryz.func238,Tryz.ntmps238;go_wp2_with fail
 go_loopg [1] b.count (λj c wr=>∃ a o,c=O5 o/\NB t wr a o/\lV a/\a.count<=j/\UK b.count b=UK j a/\Wt t z ad ah wr/\Below g.heap.size g wr)
 case atStart=>exact⟨b,F,rfl,aD.out,aI.out,g9 _,rfl,aG.out,f2 _ _⟩
 case round=>
  obtain⟨a,o,rfl,r,H,N,O,k,ay⟩:=hrel;obtain⟨j,rfl⟩:∃ j,gk=j+1:=⟨gk - 1,by have:=Zr a;omega⟩
  obtain⟨m,_,_⟩:=r.cells;have S:o<wr.heap.size:=by have E:=r.lt;have w:=k.size;omega
  have d:=Y (UF k.wr k.gJ o a.kd m S);have aF:=Y r;have U:=Y k;have R:=Y ay;have B:=Y O;have ai:=Y H;have aN:=Y N;clear O N m;go_wp2_with fail;refine YL ?_;rintro C I ⟨rfl,f⟩;have X:=Y (aF.out.fH (f.mono U.out.size));have l:=Y (U.out.below f);have p:=Y (R.out.trans (f.mono R.out.size));obtain⟨m,_,_⟩:=X.out.cells;have S:o<I.heap.size:=by have E:=f.size;omega
  by_cases s:a.kd=37
  ·have c:UK b.count b=true:=by rw[B.out,UK,fL (fM s)]
   have e:=Y c;rw[s] at m;clear c s;go_wp2;go_ret;exact⟨by rw[e.out];rfl,p.out⟩
  ·by_cases v:a.kd=38
   ·have c:UK b.count b=true:=by rw[B.out,UK,fL (fU v)]
    have e:=Y c;rw[v] at m;clear c s v;go_wp2;go_ret;exact⟨by rw[e.out];rfl,p.out⟩
   ·have c:UK b.count b=if pF a.kd=true then (if Zo (a.gK 0).kd<Zo a.kd then false else UK j (a.gK 0)) else false:=by rw[B.out,UK,fK O9]
    by_cases i:pF a.kd=true
    ·rw[fL i] at c;have P:=Rr i;have n:0<a.fJ.length:=by
      have E:=ai.out.hr;have w:1<=vc a.kd:=by rcases P with h|h|h|h|h|h|h|h|h|h <;> rw[h] <;> decide
      omega
     obtain⟨aJ,aV,A,aY,aZ,aW,u⟩:=X.out.gK 0 n;rw[<-yK n] at u;have W:=OX n;rw[<-yK n] at W;have aK:lV (a.gK 0):=by rw[yK n];exact n1.get ai.out.fJ 0 n
     have aX:aJ<I.heap.size:=by have w:=l.out.size;omega
     obtain⟨ac,_,_⟩:=u.cells;have aS:A<I.heap.size:=by have E:=u.lt;have w:=l.out.size;omega
     have d:=Y (UF l.out.wr l.out.gJ A (a.gK 0).kd ac aS);have aC:=Y u;have e:=Y c;have am:=Y aK;have ak:Hid ((a.gK 0).count<=j):=by have:=O4 aN;show _<=_;omega
     have ap:=KM a.kd;have au:=KM (a.gK 0).kd
     generalize Zo (a.gK 0).kd=ax at d e au
     generalize Zo a.kd=aQ at e ap ⊢
     clear c W i s v ac;have aU:(0:Int)<(a.fJ.length:Int):=O9
     rcases P with h|h|h|h|h|h|h|h|h|h
     all_goals
      rw[h] at m;clear h;go_wp2_with fail;refine cm d.out ?_;rintro C a1 ⟨rfl,f⟩;have aO:=Y (aC.out.fH (f.mono l.out.size));have aL:=Y (l.out.below f);have T:=Y (p.out.trans (f.mono p.out.size))
      by_cases M:ax<aQ
      ·have q:UK b.count b=false:=by rw[e.out,fL M]
       have D:=Y q;clear q;go_wp2;go_ret;exact⟨by rw[D.out];rfl,T.out⟩
      ·have q:UK b.count b=UK j (a.gK 0):=by rw[e.out,fK M]
       have D:=Y q;clear q;go_wp2
       go_roundg j
       case measure=>omega
       case rel=>exact⟨a.gK 0,A,rfl,aO.out,am.out,ak.out,D.out,aL.out,T.out⟩
    ·rw[fK i] at c;obtain⟨n,q,u,P,A,D,M,T,ac,W⟩:=amA i;have e:=Y c;clear c i;go_wp2;go_ret;exact⟨by rw[e.out];rfl,p.out⟩
def RB (d:Nat)(i:World)(c:List Tr)(k:Value):Prop:=
 ∃ e j,k=.slice e c.length j/\∀ b (l:b<c.length),∃ a f g,e=some ⟨a,f,none⟩/\a<d/\i.cell? ⟨a,f+b,none⟩=some (O5 g)/\NB d i c[b] g
def RB.fH {a:Nat}{w w':World}{g:List Tr}{i:Value}(h:RB a w g i)(b:Below a w w'):RB a w' g i:=by
 obtain⟨k,p,o,j⟩:=h;refine⟨k,p,o,λe l=>?_⟩;obtain⟨d,f,r,q,c,n,m⟩:=j e l;exact⟨d,f,r,q,c,by rw[b.cell (p:=⟨d,f+e,none⟩) c];exact n,m.fH b⟩
def NB.aMR {f:Nat}{e:World}{d:Tr}{i:Nat}(h:NB f e d i):∃ j,e.cell? ⟨i,3,none⟩=some j/\RB f e d.fJ j:=by
 by_cases m:0<d.fJ.length
 ·obtain⟨l,k,o,c,n,p,g⟩:=h.row m;exact⟨_,c,_,_,rfl,λb a=>⟨l,0,o[b],rfl,n,by rw[ib];exact(g b a O9).1,(g b a O9).2⟩⟩
 ·obtain⟨g,k,c⟩:=h.rowLen;exact⟨_,c,_,_,rfl,λb a=>absurd a O9⟩
def aqz {e g n:Nat}(a:List Tr)(b:Nat->WS)(aD:a.length<=100000)(E:∀ h:0<a.length,VC e g n a[0] 1 (b 0) (b 1))(C:∀ c (d:c<a.length),0<c->VC e g n a[c] 1 (Qo [XK] (b c)) (b (c+1))/\(b c).1.length+hE [XK]<=100000000) :
  ∀ i w,Wt e g n (b 0) i->RB e i a w->Calls Tryz.prog 287 #[Ve g,w] i (n2 e g n (b a.length) i):=by
 have U:=Y C;have O:=Y E;clear C E;intro i w M P;have T:=Y M;have ak:=Y (Kp.refl e g i);obtain⟨ay,aC,rfl,F⟩:=P;have aj:=Y F;clear F;go_enter Tryz.func287,Tryz.ntmps287;go_wp2_with fail
 go_loopw [8] (λt wr=>∃ j:Nat,j<=a.length/\t=.int .i64 j/\Wt e g n (b j) wr/\Kp e g i wr) (λt _=>a.length - (intOf t).toNat)
 case atStart=>exact⟨0,f3 _,rfl,T.out,ak.out⟩
 case round=>
  obtain⟨j,au,rfl,ac,q⟩:=hrel;have m:=Y ac;have l:=Y q;clear q
  by_cases p:j<a.length
  ·obtain⟨s,H,v,rfl,am,I,ad⟩:=aj.out j p;have z:wr.cell? ⟨s,H+j,none⟩=some (O5 v):=by rw[l.out.below.cell (p:=⟨s,H+j,none⟩) am];exact I
   have B:=Y ad;have aF:s<wr.heap.size:=by have ax:=m.out.size;omega
   clear I
   by_cases X:j=0
   ·subst X;simp only[iY] at z;have d:=Y (O.out p wr v m.out (B.out.fH l.out.below));have o{G}(h:G:=by
    have u:=Y (l.out.trans k);clear z;go_wp2
    go_roundw
    case rel=>exact⟨0+1,by omega,by go_num,f.out,u.out⟩
    case measure=>simp[intOf];omega):=O6 h;exact rr
   ·obtain⟨ai,R⟩:=U.out j p O9;have S:=Y ai;have q:(0:Int)<(j:Int):=O9;go_wp2_with fail;refine cm (p0 (a:=b j) (b:=i) [XK] _ 1 rfl #[.string XK] rfl (by exact qh P7) (by exact m.out.alloc _) (by exact l.out.alloc m.out.size _) R) ?_;intro c N A;obtain⟨rfl,r,k⟩:=A;have ah:=Y r;have D:=Y k;have ap:=Y (B.out.fH D.out.below);have d:=Y (S.out N v ah.out ap.out);clear z;have o{G}(h:G:=by
    have u:=Y (D.out.trans k);go_wp2
    go_roundw
    case rel=>exact⟨j+1,by omega,by go_num,f.out,u.out⟩
    case measure=>simp[intOf];omega):=O6 h;exact rr
  ·have c:j=a.length:=O9;subst c;go_wp2
   go_end0
   exact⟨rfl,m.out,l.out⟩
def T7 {b e i:Nat}(l shut:ByteArray)(u:List Tr)(n m:WS)(h:∀ a g,Wt b e i (VP l n) a->RB b a u g->Calls Tryz.prog 287 #[Ve e,g] a (n2 b e i m a))(z:n.1.length+l.size<=100000000)(F:m.1.length+hE [shut]<=100000000) :
  ∀ a g,Wt b e i n a->RB b a u g->Calls Tryz.prog 237 #[Ve e,.string l,.string shut,g] a (n2 b e i (Qo [shut] m) a):=by
 have w:=Y h;clear h;intro a g B p;have q:=Y B;have C:=Y p;obtain⟨M,P,rfl,H⟩:=p;clear H;have d:=Y (h4 l q.out.wr z);go_enter Tryz.func237,Tryz.ntmps237;go_wp2_with fail;refine YL ?_;rintro c v ⟨rfl,E,s⟩;have D:Hid (Wt b e i (VP l n) v):=q.out.fH E s;have t:=Y s;have d:=Y (w.out v _ D.out (C.out.fH t.out.below));have o{G}(h:G:=by
 have I:=Y (t.out.trans k);go_wp2_with fail;refine cm (p0 (a:=m) (b:=a) [shut] _ 1 rfl #[.string shut] rfl (by exact qh P7) (by exact f.out.alloc _) (by exact I.out.alloc f.out.size _) F) ?_;exact Fc):=O6 h;exact rr
section
variable {a b n:Nat} (v:ByteArray) (s:Int)
include a b n v s
def W1 (g:Tr)(aj:List Tr)(C l:WS)(u:UK g.count g=false)(ak:lV g)(h:VC a b n g 1 C l)(X:l.1.length+hE [Q9]<=100000000) :
  ∀ e q,Wt a b n C e->NB a e (.mk 15 v s (g::aj)) q->Calls Tryz.prog 174 #[Ve b,O5 q] e (n2 a b n (Qo [Q9] l) e):=by
 have N:=Y u;have M:=Y ak;have H:=Y h;clear u h;intro e q R U;have i:=Y R;have S:=Y U;have B:=Y (Kp.refl a b e);obtain⟨r,am,p,t,ac,P,ai⟩:=(S.out.fH B.out.below).gK 0 (by simp[Tr.fJ]);simp only[Tr.fJ,gL] at t;have z:Hid (NB a e g p):=ai;have F:r<e.heap.size:=by have I:=i.out.size;simp at I ⊢;omega
 have d:=Y (OB g p i.out z.out M.out);rw[N.out] at d;go_enter Tryz.func174,Tryz.ntmps174;go_wp2_with fail;refine YL ?_;rintro c ad ⟨rfl,m⟩;have E:=Y (i.out.below m);have D:=Y (B.out.trans (Kp.of (b:=b) i.out.size m));have O:=Y (z.out.fH (m.mono i.out.size));clear t ac P F;have d:=Y (H.out ad p E.out O.out);have o{G}(h:G:=by
 have w:=Y (D.out.trans k);clear r k d E D;go_wp2_with fail;refine cm (p0 (a:=l) (b:=e) [Q9] _ 1 rfl #[.string Q9] rfl (by exact qh P7) (by exact f.out.alloc _) (by exact w.out.alloc f.out.size _) X) ?_;intro c ap A;obtain⟨rfl,r,k⟩:=A;have ah:=Y r;have T:=Y k;clear r k f w;go_wp2
 go_end0
 exact⟨rfl,ah.out,T.out⟩):=O6 h;exact rr
def avd (g:List Tr)(k c:WS)(h:∀ f u,Wt a b n k f->NB a f (.mk 15 v s g) u->Calls Tryz.prog 174 #[Ve b,O5 u] f (n2 a b n c f)):SC a b n (.mk 15 v s g) k c:=by
 have r:=Y h;clear h;have e{G}(h:G:=by
 have d:=Y (r.out f u m.out o.out);go_enter Tryz.func82,Tryz.ntmps82;go_wp2_with fail;refine YL ?_;intro E F z;obtain⟨rfl,A,B⟩:=z;have C:=Y A;have D:=Y (X.out.trans B);clear i p q l;go_wp2
 go_end0
 exact⟨rfl,C.out,D.out⟩):=O6 h;exact qO
end
def aqB (bi:ByteArray)(bc:Int)(a:List Tr)(e:Nat->WS)(g v:Nat)(b:World)(P:g=b.heap.size)(D:NB g b (.mk 1 bi bc a) v)(aZ:0<a.length)(br:a.length<=100000)(aC:TypeId)(ac:Nat × Nat)(am:b.heap[3]? = some (.cells U2 aC ac))(aD:TypeId)(aI:Nat × Nat)(aF:b.heap[4]? = some (.cells Vp aD aI))(a7:kY b)(aj:e 0=([],O8))
  (R:∀ i l d (f:d<a.length),∃ t,SC g i l a[d] (e d) t/\t.1.length+1<=100000000/\e (d+1)=Bb t) (ap:(e a.length).1.length<=100000000) (m:(e a.length).1≠[]) :
  Calls Tryz.prog 40 #[O5 v] b λc aK=>c=.returned (.string ⟨(e a.length).1.toArray⟩)/\Below b.heap.size b aK:=by
 have aY:=Y R;have aS:=Y D;have aV:=Y ap;have bh:=Y m;have aQ:=Y aj;have d:=Y (afl b aC ac am);obtain⟨T,_,_⟩:=D.cells;simp only[Tr.kd] at T;have S:v<b.heap.size:=by have n:=D.lt;omega
 have M:=Y P;have F:=Y aF;have ax:=Y a7;clear R ap m am aj P aF;go_enter Tryz.func40,Tryz.ntmps40;go_wp2_with fail;refine YL ?_;rintro c I ⟨i,l,rfl,bn,O,m,p⟩;have ah:Hid (Wt g i l (e 0) I):=by rw[M.out,aQ.out];exact⟨bn,O,m,⟨fI F.out,aD,aI,by rw[p.block 4 (fI F.out)];exact F.out⟩,ax.out.lt,ax.out.fH p⟩
 have aU:=Y p;have U:=Y (aS.out.fH (by rw[M.out];exact p))
 clear O m T S;obtain⟨C,bq,be,X,aG,w,ak⟩:=U.out.row (by simpa[Tr.fJ] using aZ);simp only[Tr.fJ] at X w;have S:v<I.heap.size:=by have n:=U.out.lt;have aL:=ah.out.size;omega
 have bf:=Y ak;have N:=Y w;have ay:=Y aG;clear ak w aG;go_wp2_with fail;clear X
 go_loopw [21] (λE wr=>∃ j:Nat,j<=a.length/\E=.int .i64 j/\Wt g i l (e j) wr/\Below g I wr) (λE _=>a.length - (intOf E).toNat)
 case atStart=>exact⟨0,f3 _,rfl,ah.out,f2 _ _⟩
 case round=>
  obtain⟨j,bo,rfl,a6,aX⟩:=hrel;have B:=Y a6;have u:=Y aX
  by_cases s:j<a.length
  ·obtain⟨t,a8,bj,ai⟩:=aY.out i l j s;obtain⟨H,au⟩:=bf.out j (by simpa[Tr.fJ] using s) (by rw[N.out];exact s)
   generalize be[j]'(by rw[N.out];exact s)=q at H au
   have bm:wr.cell? ⟨C,j,none⟩=some (O5 q):=by rw[u.out.cell (p:=⟨C,j,none⟩) ay.out];exact H
   have d:=Y (a8 wr q B.out (au.fH u.out));have a1:=Y ai;have bu:C<wr.heap.size:=by have n:=O4 ay;have aL:=B.out.size;omega
   clear ai H;have o{G}(h:G:=by
   have z:=Y (u.out.trans k.below);clear bm;have d:=Y (Wg f.out.wr bj);go_wp2_with fail;refine YL ?_;rintro c aO ⟨rfl,aN,ad⟩;have ba:Hid (Wt g i l (e (j+1)) aO):=by rw[a1.out];exact f.out.fH aN ad
   have aW:=Y (z.out.trans ad.below);go_wp2
   go_roundw
   case rel=>exact⟨j+1,by omega,by go_num,ba.out,aW.out⟩
   case measure=>simp[intOf];omega):=O6 h;exact rr
  ·have k:j=a.length:=O9;subst k;have d:=Y (amy B.out.wr bh.out aV.out);go_wp2_with fail;refine YL ?_;rintro c aJ ⟨rfl,f⟩;have z:Hid (Below b.heap.size b aJ):=by
    have n:=u.out.trans f;rw[M.out] at n;exact aU.out.trans n
   go_wp2;go_ret;exact⟨rfl,z.out⟩
def RB.tail {d:Nat}{i:World}{r:Tr}{c:List Tr}{f:Option Addr}{g:Nat}(h:RB d i (r::c) (.slice f (c.length+1) g)):∃ a b,f=some ⟨a,b,none⟩/\RB d i c (.slice (some ⟨a,b+1,none⟩) c.length (g - 1)):=by
 obtain⟨w,t,m,e⟩:=h;cases m;obtain⟨a,b,z,rfl,u,_,_⟩:=e 0 P7;refine⟨a,b,rfl,_,_,rfl,λq k=>?_⟩;obtain⟨s,v,o,p,j,n,l⟩:=e (q+1) (by simpa using k);cases p;exact⟨a,b+1,o,rfl,j,by rw[Nat.add_right_comm,lj];exact n,l⟩
def NB.rf {g:Nat}{f:World}{n:Tr}{e:Nat}(h:NB g f n e){k:Option Addr}{d c:Nat}(l:f.cell? ⟨e,3,none⟩=some (.slice k d c)):d<=c:=by
 obtain⟨u,t,i,j,s,o⟩:=Qa.Uf h;obtain⟨_,_,_,b,_⟩:=fZ i;rw[l] at b;cases b
 rcases j.2 with ⟨a,_⟩|⟨r,q,p,a,_,_,m,_⟩
 ·
  cases a;exact g9 _
 ·
  cases a;exact m
def Z7 {a b z:Nat}(aQ:ByteArray)(aK:Int)(A:Tr)(B:List Tr)(least:Int)(aj ai s2:WS)(be:¬ (9:Int)<least)(ba:B.length<=100)(aF:VC a b z A 9 aj ai)(w:∀ f I,Wt a b z ai f->RB a f B I->Calls Tryz.prog 237 #[Ve b,.string Rz,.string Tt,I] f (n2 a b z s2 f)) :
  VC a b z (.mk 35 aQ aK (A::B)) least aj s2:=by
 have aX:=Y aF;have ah:=Y w;clear w;have e{G}(h:G:=by
 go_enter lA,lv;have E:Zo 35=9:=by decide +kernel
 have d:=Y (UF m.out.wr m.out.gJ u 35 i l);have e{G}(h:G:=by
 obtain⟨au,aG⟩:=h5 35 g.out (by decide +kernel);have e{G}(h:G:=by
 obtain⟨aJ,a1,H,ac,aN,am,aO⟩:=(o.out.fH F.out.below).gK 0 (by simp[Tr.fJ]);simp only[Tr.fJ,gL] at ac;have aU:Hid (NB a n A H):=aO;have aS:aJ<n.heap.size:=by have t:=g.out.size;simp at t ⊢;omega
 have aW:Hid (NB a (n.alloc (.cells #[.string ⟨#[]⟩,.int .i64 0,.int .i64 0,.int .i64 0] 275)).drew A H):=aU.out.fH (((f2 a n).alloc g.out.size (.cells #[.string ⟨#[]⟩,.int .i64 0,.int .i64 0,.int .i64 0] 275)).drew);have d:=Y (aX.out (n.alloc (.cells #[.string ⟨#[]⟩,.int .i64 0,.int .i64 0,.int .i64 0] 275)).drew H C.out aW.out);go_wp2_with fail
 go_region
 go_wp2_with fail;refine YL ?_;intro c k M;obtain⟨rfl,N,O⟩:=M;have s:=Y N;have r:=Y (P.out.trans O);clear i p q l R S U T au aG ac aN am aS;have e{G}(h:G:=by
 obtain⟨I,ad,v⟩:=(o.out.fH r.out.below).aMR;simp only[Tr.fJ] at v;obtain⟨a8,ax,rfl,aI⟩:=id v;clear aI;simp only[gL] at ad v;obtain⟨aC,aL,rfl,aV⟩:=v.tail;have bc:=(o.out.fH r.out.below).rf ad;have ay:=Y aV
 by_cases aD:ax=1
 ·subst aD;obtain rfl:B=[]:=lm O9;have d:=Y (ah.out k (.slice (some ⟨aC,aL,none⟩) 0 0) s.out ⟨_,_,rfl,λbf ap=>absurd ap P7⟩);exact Hv
 ·have d:=Y (ah.out k _ s.out ay.out);exact Hv):=O6 h;exact Hq):=O6 h;exact yi):=O6 h;exact uX):=O6 h;exact qO
