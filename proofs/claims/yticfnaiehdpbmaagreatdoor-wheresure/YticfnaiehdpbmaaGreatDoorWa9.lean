import Derived.Test.YticfnaiehdpbmaaGreatDoorRows
import Derived.LaidMore
import Derived.Test.YticfnaiehdpbmaaGreatDoorWa8
set_option maxRecDepth 100000
set_option maxHeartbeats 0
set_option linter.all false
namespace Go.Proofs.YticfnaiehdpbmaaGreatDoor
open Go.RowKit Go.Proofs.Tryz
section
open Go.ChangeShapes Go.WideShapes Go.ChangeAt Go.WideMaps Go.WideElems Go.RowKit
def aJn:ownKnob Tryz.prog.godebug=none:=by kernel_rfl
def Id : Tryz.prog.globalNamed "sloppyscope/lex.words" = some 6 := by kernel_rfl
def Ax : Tryz.prog.globalNamed "sloppyscope/lex.signs" = some 2 := by kernel_rfl
def azo:(Tryz.prog.globals[6]?).map (·.type)=some 272:=by kernel_rfl
def azp:(Tryz.prog.globals[2]?).map (·.type)=some 272:=by kernel_rfl
def j7:Tryz.prog.cellsOf 9=1:=by kernel_rfl
def nZ:Tryz.prog.cellsOf 272=19:=by kernel_rfl
def Z8 {W:World}{fuel:Nat}{c:List Value}{v:List MemPlace}(b:List (List UInt8))(r:b.length=19)(h:DataW.trod (λ_=>()) Tryz.prog W 0 (λ_=>true) false fuel 272 c=some (.agg (b.map λd=>.lit (.string d)),v)):c=(b.map ofBytes).map Value.string:=by
 obtain⟨n,z,rfl,f,l,i,s⟩:=DataW.trod_array Tryz.underlying272 h;simp only[iM,kA] at f;rw[nZ] at l;refine List.ext_getElem (by simp[r,l]) λa t w=>?_;have o:a<19:=by omega
 have g:=s a o;rw[j7,Nat.mul_one,gq (by omega)] at g;obtain⟨e,p,q,_⟩:=DataW.trod_string zalea g;have j:(n.map (·.1))[a]'(by simp[i];omega)=.lit (.string (b[a]'(by omega))):=by
  have k:(n.map (·.1))[a]? =(b.map λd=>(DataW.lit (.string d):DataW Unit))[a]?:=by rw[f.1]
  rw[gq (by simp[i];omega),gq (by simp;omega)] at k
  simpa using k
 rw[jS,q] at j;have u:e.data.toList=b[a]'(by omega):=by simpa using j
 have m:(c.drop a)[0]?=some (.string e):=by
  have:((c.drop a).take 1)[0]?=some (.string e):=by rw[p];rfl
  simpa using this
 rw[List.getElem?_drop,jM,gq t] at m;rw[hb m];simp[H8 u]
def XY {W:World}{e:String}{d:Nat}{c:Array Value}(f:Tryz.prog.globalNamed e=some d)(h:W.var? Tryz.prog e=some c):∃b a,W.heap[d]?=some (.cells c b a):=by
 simp only[World.var?,f,mU] at h
 split at h
 ·rename_i i b a g
  cases h;exact⟨b,a,g⟩
 ·
  cases h
end
section
open Go.ChangeShapes Go.WideShapes Go.ChangeAt Go.WideMaps Go.WideElems Go.RowKit
def Bt : Tryz.prog.globalNamed "sloppyscope/tree.signs" = some 3 := by kernel_rfl
def Ky : Tryz.prog.globalNamed "sloppyscope/tree.heads" = some 4 := by kernel_rfl
def M0:(Tryz.prog.globals[3]?).map (·.type)=some 276:=by kernel_rfl
def au7:(Tryz.prog.globals[4]?).map (·.type)=some 285:=by kernel_rfl
def Fc:Tryz.prog.cellsOf 275=4:=by kernel_rfl
def EA:Tryz.prog.cellsOf 3=1:=by kernel_rfl
def arq:Tryz.prog.cellsOf 276=56:=by kernel_rfl
def Ke:Tryz.prog.cellsOf 284=2:=by kernel_rfl
def L3:Tryz.prog.cellsOf 285=16:=by kernel_rfl
def uZ (a:Nat)(k:0<a):∀(b:List (List Value))(c:List Value),(∀j ∈ b,j.length=a)->c.length=b.length * a->(∀d (g:d<b.length),(c.drop (d * a)).take a=b[d])->c=b.flatten
 |[],c,_,e,_=>by
  have:c.length=0:=by simpa using e
  simpa using this
 |j::b,c,h,e,f=>by
  have i:=f 0 (by simp);simp only[jn,List.drop_zero,List.getElem_cons_zero] at i;have m:=uZ a k b (c.drop a) (λx l=>h x (gO _ l)) (by rw[List.length_drop,e,g4,iV];omega) (λd g=>by
   have:=f (d+1) (by simpa using g);rw[List.getElem_cons_succ] at this;rw[List.drop_drop,show a+d * a=(d+1) * a by rw[iV];omega]
   exact this)
  rw[List.flatten_cons,<-i,<-m,jm]
section
variable {W:World}{fuel:Nat}{a:List Value}
include W fuel a
def tG {b:Int}{e:List MemPlace}(h:DataW.trod (λ_=>()) Tryz.prog W 0 (λ_=>true) false fuel 3 a=some (.lit (.int .i64 b),e)):a=[.int .i64 b]:=by
 obtain⟨f,d,c,_⟩:=DataW.trod_int zalhk h;simp only[iM,DataW.lit.injEq,Lit.int.injEq,kO] at c;rw[d,<-c.1]
def lk {c:List UInt8}{e:List MemPlace}(h:DataW.trod (λ_=>()) Tryz.prog W 0 (λ_=>true) false fuel 9 a=some (.lit (.string c),e)):a=[.string (ofBytes c)]:=by
 obtain⟨f,d,b,_⟩:=DataW.trod_string zalea h;simp only[iM,DataW.lit.injEq,Lit.string.injEq] at b;rw[d,H8 b.1.symm]
end
def au9 {a:List Value}(k:a.length=4){c e f g:Value}(i:(a.drop 0).take 1=[c])(j:(a.drop 1).take 1=[e])(b:(a.drop 2).take 1=[f])(d:(a.drop 3).take 1=[g]):a=[c,e,f,g]:=by
 match a,k with
 |[x,y,l,m],_=>simp at i j b d;rw[i,j,b,d]
def nA {a:List Value}(f:a.length=2){b c:Value}(d:(a.drop 0).take 1=[b])(e:(a.drop 1).take 1=[c]):a=[b,c]:=by
 match a,f with
 |[x,y],_=>simp at d e;rw[d,e]
def vv (d:List UInt8)(a b c:Int):DataW Unit:=.agg [.lit (.string d),.lit (.int .i64 a),.lit (.int .i64 b),.lit (.int .i64 c)]
def yy (b:List UInt8)(a:Int):DataW Unit:=.agg [.lit (.string b),.lit (.int .i64 a)]
def Zp {H:Type}{c:List (DataW H×List MemPlace)}{d:List (DataW H)}(h:d=c.map (·.1))(b:Nat)(f:DataW H)(a:d[b]?=some f):∃g,c[b]?=some (f,g):=by
 subst h;rw[jc] at a
 cases e:c[b]? with
 |none=>rw[e] at a;cases a
 |some x=>
  rw[e] at a;exact⟨x.2,by rw[<-hb a]⟩
section
variable {W:World}{fuel:Nat}{a:List Value}{c:List UInt8}
include W fuel a c
def aFj {e f i:Int}{v:List MemPlace}(h:DataW.trod (λ_=>()) Tryz.prog W 0 (λ_=>true) false fuel 275 a=some (vv c e f i,v)) :
  a=[.string (ofBytes c),.int .i64 e,.int .i64 f,.int .i64 i]:=by
 obtain⟨E,D,_,b,p,w,d⟩:=DataW.trod_struct Tryz.underlying275 h;simp only[iM,vv,kA] at b;rw[Fc] at p;obtain⟨A,t⟩:=Zp b.1 0 _ rfl;obtain⟨B,r⟩:=Zp b.1 1 _ rfl;obtain⟨z,s⟩:=Zp b.1 2 _ rfl;obtain⟨C,u⟩:=Zp b.1 3 _ rfl;have q:=d 0 _ rfl;have k:=d 1 _ rfl;have j:=d 2 _ rfl;have n:=d 3 _ rfl;rw[t] at q;rw[r] at k;rw[s] at j;rw[u] at n;have o:(a.drop 0).take (Tryz.prog.cellsOf 9)=_:=lk q
 have g:(a.drop 1).take (Tryz.prog.cellsOf 3)=_:=tG k;have l:(a.drop 2).take (Tryz.prog.cellsOf 3)=_:=tG j;have m:(a.drop 3).take (Tryz.prog.cellsOf 3)=_:=tG n;rw[j7] at o;rw[EA] at g l m;exact au9 p o g l m
def aFk {d:Int}{n:List MemPlace}(h:DataW.trod (λ_=>()) Tryz.prog W 0 (λ_=>true) false fuel 284 a=some (yy c d,n)) :
  a=[.string (ofBytes c),.int .i64 d]:=by
 obtain⟨s,r,_,b,j,o,g⟩:=DataW.trod_struct Tryz.underlying284 h;simp only[iM,yy,kA] at b;rw[Ke] at j;obtain⟨p,m⟩:=Zp b.1 0 _ rfl;obtain⟨q,l⟩:=Zp b.1 1 _ rfl;have k:=g 0 _ rfl;have f:=g 1 _ rfl;rw[m] at k;rw[l] at f;have i:(a.drop 0).take (Tryz.prog.cellsOf 9)=_:=lk k;have e:(a.drop 1).take (Tryz.prog.cellsOf 3)=_:=tG f;rw[j7] at i;rw[EA] at e;exact nA j i e
end
def DJ:List (List UInt8×Int×Int×Int):=jJ.map λa=>(a.tx.data.toList,a.kd,a.parts,a.str)
def IG:List (List UInt8×Int):=hG.map λa=>(a.1.data.toList,a.2)
section
variable {W:World}{fuel:Nat}{b:List Value}{f:List MemPlace}
include W fuel b f
def anX (h:DataW.trod (λ_=>()) Tryz.prog W 0 (λ_=>true) false fuel 276 b=some (.agg (DJ.map λa=>vv a.1 a.2.1 a.2.2.1 a.2.2.2),f)):b=XZ.toList:=by
 obtain⟨q,o,_,g,i,n,l⟩:=DataW.trod_array Tryz.underlying276 h;simp only[iM,kA] at g;rw[arq] at i;have m:b=(DJ.map λa=>[Value.string (ofBytes a.1),.int .i64 a.2.1,.int .i64 a.2.2.1,.int .i64 a.2.2.2]).flatten:=by
  refine uZ 4 (by decide) _ b ?_ (by rw[i];rfl) ?_
  ·intro d c;obtain⟨a,_,rfl⟩:=h4.1 c;rfl
  ·intro e d;rw[gF] at d;have j:e<14:=d;have c:=l e j;rw[Fc] at c;obtain⟨p,k⟩:=Zp g.1 e _ (by rw[jc,gq d];rfl)
   rw[k] at c;rw[aFj c,jS]
 rw[m];rfl
def Nw (h:DataW.trod (λ_=>()) Tryz.prog W 0 (λ_=>true) false fuel 285 b=some (.agg (IG.map λa=>yy a.1 a.2),f)):b=W9.toList:=by
 obtain⟨q,o,_,g,i,n,l⟩:=DataW.trod_array Tryz.underlying285 h;simp only[iM,kA] at g;rw[L3] at i;have m:b=(IG.map λa=>[Value.string (ofBytes a.1),.int .i64 a.2]).flatten:=by
  refine uZ 2 (by decide) _ b ?_ (by rw[i];rfl) ?_
  ·intro d c;obtain⟨a,_,rfl⟩:=h4.1 c;rfl
  ·intro e d;rw[gF] at d;have j:e<8:=d;have c:=l e j;rw[Ke] at c;obtain⟨p,k⟩:=Zp g.1 e _ (by rw[jc,gq d];rfl)
   rw[k] at c;rw[aFk c,jS]
 rw[m];rfl
end
end
structure Sc where
 own:Int
 jC:List PS
 gv:Bool
def VN:List Sc->PS->Bool->Int×Bool
 |[],_,a=>(-1,a)
 |b::d,c,a=>if hasB b.jC c then (b.own,a) else VN d c (a && !b.gv)
abbrev Xr (c:Int)(b:PO)(d:Bool)(a:PO):Obj:=Qb #[Ph c,b,PD d,a] 162
abbrev QI (a:Nat):PO:=PZ a 0
def YD (c:Nat->Prop)(g:Py):PO->List Sc->Prop
 |f,[]=>f=.pointer none
 |f,b::j=>∃a e d,f=QI a/\c a/\g.heap[a]?=some (Xr b.own e b.gv d)/\QV 0 g e b.jC/\(∀i,e.ownBlock=some i->c i)/\b.jC.length<=100000/\(∀i,d=QI i->i<a)/\YD c g d j
def YD.fQ {I:Nat->Prop}{w w':Py}(b:Uz I w w'):∀(a:List Sc)(c:PO),YD I w c a->YD I w' c a
 |[],_,h=>h
 |p::a,c,h=>by
  obtain⟨g,o,e,n,d,f,j,i,k,m,l⟩:=h;exact⟨g,o,e,n,d,by rw[b g d (fR f)];exact f,Qw b i j,i,k,m,YD.fQ b a e l⟩
def YD.mono {g J:Nat->Prop}{f:Py}(d:∀a,g a->a<f.heap.size->J a):∀(b:List Sc)(e:PO),YD g f e b->YD J f e b
 |[],_,h=>h
 |t::b,e,h=>by
  obtain⟨a,s,i,r,m,k,j,o,n,q,p⟩:=h;exact⟨a,s,i,r,d a m (fR k),k,j,λc l=>d c (o c l) (Qm j c l).1,n,q,YD.mono d b i p⟩
def YD.form {e:Nat->Prop}{d:Py}{b:List Sc}{c:PO}(h:YD e d c b):c=Rz\/∃a,c=QI a/\a<d.heap.size:=by
 cases b with
 |nil=>exact fU h
 |cons j b=>
  obtain⟨a,k,i,g,_,f,_⟩:=h;exact f4 ⟨a,g,fR f⟩
def uV:PO->Nat
 |.pointer (some a)=>a.block+1
 |_=>0
def wa {p:Nat->Prop}(g:List Sc)(b:PS)(v:PO)(w:Py)(h:YD p w v g) :
  PN 74 #[v,PI b] w λm A=>m=PY (.tuple #[Ph (VN g b true).1,PD (VN g b true).2])/\A=w:=by
 have L:=Y h
 rcases h.form with r|⟨ae,r,_⟩ <;> subst r <;> clear h
 all_goals
  go_enter func74,ntmps74;go_wp2_with fail
  go_loopw [0,5] (λn x wr=>wr=w/\∃(f:List Sc)(d:Bool),x=PD d/\YD p w n f/\VN f b d=VN g b true) (λn _ _=>uV n)
  case atStart=>exact⟨rfl,g,true,rfl,L.out,rfl⟩
  case round=>
   obtain⟨rfl,f,d,rfl,o,l⟩:=hrel
   cases f with
   |nil=>
    have c:_=Value.pointer none:=o;subst c;have a:=Y l;clear l;go_wp2_with fail;exact Uj (v:=.tuple #[Ph (-1),PD d]) ⟨by rw[<-a.out];rfl,rfl⟩
   |cons e f=>
    obtain⟨j,z,C,rfl,H,c,s,_,t,u,T⟩:=o;have D:wr.cell? (Pn j 0)=some (Ph e.own):=by rw[cell_of c];rfl
    have S:wr.cell? (Pn j 1)=some z:=by rw[cell_of c];rfl
    have E:wr.cell? (Pn j 2)=some (PD e.gv):=by rw[cell_of c];rfl
    have U:wr.cell? (Pn j 3)=some C:=by rw[cell_of c];rfl
    have ad:=fR c;have i:=Y (Vz e.jC b z wr s t);obtain⟨ak,af,rfl⟩:=P7 s;have a:=Y l;have F:=Y T;have B:=Y u;have N:=T.form;rw[VN] at a
    generalize e.own=own at D a
    generalize e.gv=ah at E a
    clear c t u l H
    cases k:hasB e.jC b with
    |true=>
     rw[k] at i a;clear k;go_wp2_with fail;refine cm i.out ?_;rintro m M ⟨rfl,rfl⟩;go_wp2_with fail;exact Uj (v:=.tuple #[Ph own,PD d]) ⟨by rw[<-a.out];rfl,rfl⟩
    |false=>
     rw[k] at i a;clear k;go_wp2_with fail;refine cm i.out ?_;rintro m M ⟨rfl,rfl⟩
     rcases N with q|⟨O,q,_⟩ <;> subst q <;> cases d
     all_goals
      go_wp2
      go_roundw
      case rel=>exact⟨trivial,f,_,rfl,F.out,by simpa using a.out⟩
      case measure=>first |(simp[uV];done) |(have X:=Pj B _ rfl;simp[uV];omega)
abbrev RX (b:PO)(a:Bool):PO:=.agg #[b,PD a]
def WW (b:Option Addr)(a:Bool)(e:Int)(g:Option Addr)(c d:Nat)(f:Bool)(j:Option Addr)(w:Py) :
  PN 75 #[RX (.pointer b) a,.agg #[Ph e,.slice g c d,PD f,.pointer j]] w λl i=>
   (l=PY (RX (QI (w.heap.size+1)) a)/\i.heap[w.heap.size+1]?=some (Xr e (.slice g c d) f (.pointer b)))/\PG w i:=by
 go_enter func75,ntmps75;go_wp2_with fail;have k:(w.alloc (.cells #[QI (w.heap.size+1),PD a] 100)).heap.size=w.heap.size+1:=by simp
 refine Uj (v:=RX (QI (w.heap.size+1)) a) ⟨⟨rfl,?_⟩,(QK.alloc Qh _).alloc SC _⟩;rw[gy _ _ _ Qh];have h:=Pz (w.alloc (.cells #[QI (w.heap.size+1),PD a] 100)) (Xr e (.slice g c d) f (.pointer b));rw[k] at h;exact h
def D4 {A:Nat}(c:List Tr)(w:PO)(d:Py)(h:UZ A d w c)(aE:c.length<=90000) :
  PN 76 #[w] d λO p=>(∃a,O=PY a/\QV d.heap.size p a (c.map Tr.tx))/\PG d p:=by
 obtain⟨T,M,N,E,I⟩:=g2 iQ;obtain⟨aI,ak,rfl⟩:=h.form;have L:=Y h;clear h;go_enter func76,ntmps76;go_wp2_with fail
 go_loopw [3,8] (λb n wr=>∃a:Nat,a<=c.length/\n=Ph a/\QV d.heap.size wr b ((c.take a).map Tr.tx)/\PG d wr) (λ_ n _=>c.length - (intOf n).toNat)
 case atStart=>exact⟨0,ge _,rfl,Xu _ _,RV⟩
 case round=>
  obtain⟨a,ae,rfl,u,R⟩:=hrel;have l:=Y u;have g:=Y R;obtain⟨q,r,rfl⟩:=P7 u
  by_cases j:a<c.length
  ·obtain⟨ax,al,aH,s,aD,af,C⟩:=(L.out.fQ g.out).cell a j;have b{G}(h:G:=by
   obtain⟨ap,_,F,_⟩:=C.cells;have au:(a:Int)<(c.length:Int):=Pv;obtain⟨x,m⟩:∃x,x=(c[a]).tx:=⟨_,rfl⟩;rw[<-m] at F;have o:=Y m;have H:=g.out.size;obtain⟨e,f⟩:∃e,e=(c.take a).map Tr.tx:=⟨_,rfl⟩;have i:e.length=a:=by rw[f];simp;omega
   have k:=Y f;rw[<-f] at l ⊢;have v:Hid (World.ownsRow wr d.heap.size 9 1 (.slice q a r) a (e.map Value.string)):=by
    have h:World.ownsRow wr d.heap.size 9 1 (.slice q e.length r) e.length (e.map Value.string):=Pj l;rw[i] at h;exact h
   rw[i];have z:=Y i;clear m f i
   go_wp2_with (at_builtin;refine wpList_append_lies _ rfl _ _ 26 rfl d.heap.size 9 T (PI ByteArray.empty) 1 16 i7 M N E I rfl PK _ _ _ rfl (v.out.alloc _) (Pn wr.heap.size 0) 1 1 [PI x] rfl rfl (Xv wr x _ rfl) (o7 x) PK (by unfold maxLen;omega) Pv SC (wr.heap.size+1) Qh ?_)
   intro ay ad ah hown' S U _;have P:=Y ((g.out.alloc H (.cells #[PI x] 9)).grown S SC (λD t=>(Qm v.out D t).2));have B:=Y hown';clear U;go_wp2
   go_roundw
   case rel=>
    refine⟨a+1,by omega,by go_num,?_,P.out⟩;refine Ah ?_;exact Pj B
   case measure=>simp[intOf];omega):=Pq h;exact Vt
  ·have b:a=c.length:=Pv;subst b;go_wp2;go_ret;refine⟨⟨_,rfl,?_⟩,g.out⟩;have h:=Pj l;rw[gV] at h;rw[gV];exact h
def ni (b:Tr):Bool:=b.kd==35&&(match b.fS with|a::_=>a.kd==23&&decide (a.tx=TQ) |[]=>false)
mutual
def me:Tr->Bool
 |.mk b d c a=>ni (.mk b d c a)||(if Q7 (.mk b d c a) then false else l4 a)
def l4:List Tr->Bool
 |[]=>false
 |b::a=>me b||l4 a
end
def Xq (a:Tr):Bool:=ni a||l4 a.fS
def vf (a:Tr):me a=(ni a||(if Q7 a then false else l4 a.fS)):=by
 cases a with
 |mk b e d c=>rw[me];rfl
def Rl.first {i:Nat->Prop}{b:Py}{d c:Ad}{j:List Ad}(h:Rl i b d)(g:d.ks=c::j):∃a f,b.cell? (Pn d.p 3)=some (.slice (some (Pn a 0)) (j.length+1) f)/\a<b.heap.size/\b.cell? (Pn a 0)=some (Pm c.p)/\Rl i b c:=by
 obtain⟨_,_,_,_,m,l,e,_⟩:=h.cells;rw[g] at e;obtain⟨a,f,rfl,k⟩:=UC e Qh;refine⟨a,f,?_,(Qm e a rfl).1,?_,h.parts c (by rw[g];simp)⟩
 ·rw[l];simp
 ·have:=k 0 Qh;simpa using this
def aew {A:Nat->Prop}{a:Ad}{l:Py}(m:Rl A l a)(f:a.kd=35->a.ks≠[]) :
  PN 231 #[Pm a.p] l λE z=>E=PY (PD (ni a.tr))/\z=l:=by
 obtain⟨_,s,d,_,_⟩:=m.cells;obtain⟨g,_,j⟩:=a.Yb;unfold ni;rw[g,j];obtain⟨v,c⟩:∃v,v=a.p:=⟨_,rfl⟩
 cases k:(a.kd==35) with
 |false=>
  rw[Bool.false_and];rw[<-c] at s d ⊢
  generalize a.kd=I at d k
  clear c f g j;exact r4
 |true=>
  have o:=f (by simpa using k)
  cases i:a.ks with
  |nil=>exact absurd i o
  |cons e L=>
   obtain⟨P,O,p,R,F,C⟩:=m.first i
   obtain⟨_,D,t,u,_⟩:=C.cells;obtain⟨r,q,_⟩:=e.Yb;rw[hv];simp only;rw[r,q];rw[<-c] at s d p ⊢;obtain⟨w,n⟩:∃w,w=e.p:=⟨_,rfl⟩;rw[<-n] at D t u F
   generalize a.kd=I at d k
   generalize e.kd=H at t
   generalize e.tx=N at u
   generalize L.length=M at p
   have T:(0:Int)<(((M+1:Nat)):Int):=Pv;clear c f g j r q n i o
   cases S:(H==23) with
   |false=>
    exact r4
   |true=>
    by_cases b:N=TQ
    ·have B:=WV (a:=TQ) rfl b;rw[hr b];clear b;exact r4
    ·have B:=VX (a:=TQ) rfl b;rw[hi b];clear b;exact r4
def NK (a:Tr)(c:Nat)(b:Py)(h:UN b a c):PN 232 #[Pm c] b λf d=>f=PY (PD (Q7 a))/\d=b:=by
 obtain⟨j,e,_,_⟩:=h.cells;clear h;unfold Q7
 generalize a.kd=g at e
 cases i:(g==5)
 all_goals
  go_enter func232,ntmps232;go_wp2;go_ret;exact⟨rfl,rfl⟩
structure vc (kJ nb root:Nat)(b:Bool)(w:Py):Prop where
 found:w.heap[kJ]?=some (Qb #[PD b] 4)
 word:w.heap[nb]?=some (Qb #[Pm root] 22)
 node:Cl w root
def iS (root:Nat)(b:Bool)(a:Ad):Bool×Bool:=(b||ni a.tr,decide (a.p=root) ||!Q7 a.tr)
def ajP {b g root:Nat}{i:Bool}{a:Ad}{n:Nat->Prop}{d:Py}(e:vc b g root i d)(r:Rl n d a)(p:a.kd=35->a.ks≠[])(u:∀x,n x->x≠b)(B:g≠b)(q:root≠b) :
  PN 230 #[Pm a.p,PZ b 0,PZ g 0] d λj z=>j=PY (PD (iS root i a).2)/\z=d.setCell (Pn b 0) (PD (iS root i a).1):=by
 have R:d.cell? (Pn b 0)=some (PD i):=by rw[cell_of e.found];rfl
 have N:=Rn e.found 0;have O:=fR e.found;have l:=Y (aew r p);obtain⟨c,f⟩:∃c,c=d.setCell (Pn b 0) (PD (i||ni a.tr)):=⟨_,rfl⟩;have k:∀x,x≠b->c.heap[x]?=d.heap[x]?:=λx o=>by rw[f];exact gZ d (Pn b 0) _ x o
 have v:Rl n c a:=Rl.fQ (λx o _=>k x (u x o)) _ r;have m:=Y (NK a.tr a.p c (QT.nt v.nat));have H:c.cell? (Pn g 0)=some (Pm root):=by rw[cell_of (by rw[k g B];exact e.word)];rfl
 have D:Cl c root:=by
  obtain⟨C,E,A⟩:=e.node;exact⟨C,E,by rw[k root q];exact A⟩
 have s:(binOp .eql 22 (Pm a.p) (Pm root)).run prog c=.ok (PD (decide (a.p=root))) c:=by
  simp only[binOp];simp[AY v.cl D]
 have M:g<c.heap.size:=by rw[f];simpa using fR e.word
 unfold iS;simp only
 generalize ni a.tr=I at l f
 generalize Q7 a.tr=t at m
 generalize decide (a.p=root)=Ci at s
 generalize a.p=P at l m s
 have L:d.cell? (Pn g 0)=some (Pm root):=by rw[cell_of e.word];rfl
 have F:=fR e.word;clear p u q k
 cases i with
 |true=>
  rw[ij] at f ⊢;subst f
  cases Ci with
  |true=>
   go_enter func230,ntmps230;go_wp2;go_ret;exact⟨rfl,rfl⟩
  |false=>
   go_enter func230,ntmps230;go_wp2_with fail;refine cm m.out ?_;rintro j w ⟨rfl,rfl⟩;go_wp2;go_ret;exact⟨by cases t <;> rfl,rfl⟩
 |false=>
  rw[hL] at f ⊢;subst f
  cases Ci with
  |true=>
   go_enter func230,ntmps230;go_wp2_with fail;refine cm l.out ?_;rintro j w ⟨rfl,rfl⟩;go_wp2;go_ret;exact⟨rfl,rfl⟩
  |false=>
   go_enter func230,ntmps230;go_wp2_with fail;refine cm l.out ?_;rintro j w ⟨rfl,rfl⟩;go_wp2_with fail;refine cm m.out ?_;rintro j A ⟨rfl,rfl⟩;go_wp2;go_ret;exact⟨by cases t <;> rfl,rfl⟩
mutual
def Wk (root:Nat):∀(c:Ad)(a:Bool),root ∉ c.TB->wk (iS root) a c=(a||me c.tr)
 |.mk j d f e b,a,h=>by
  rw[Ad.TB,gE,not_or] at h;rw[wk,Ad.tr,me];have g:decide ((Ad.mk j d f e b).p=root)=false:=hi (λi=>h.1 i.symm);simp only[iS,g,hL];rw[Ad.tr]
  cases Q7 (.mk d f e (Ad.kB b)) with
  |true=>simp
  |false=>
   simp only[lG,hq,ic,ib];rw[xj root b _ h.2,mH]
def xj (root:Nat):∀(a:List Ad)(b:Bool),root ∉ Ad.RQ a->jg (iS root) b a=(b||l4 (Ad.kB a))
 |[],b,_=>by rw[jg,Ad.kB,l4,ju]
 |c::a,b,h=>by
  rw[Ad.RQ,gB,not_or] at h;rw[jg,Wk root c b h.1,xj root a _ h.2,Ad.kB,l4,mH]
end
def UX (c:Ad)(d:Bool)(h:c.TB.Nodup):wk (iS c.p) d c=(d||Xq c.tr):=by
 cases c with
 |mk a e g f b=>
  rw[Ad.TB,mZ] at h;have i:iS a d (.mk a e g f b)=(d||ni (Ad.mk a e g f b).tr,true):=by
   unfold iS;rw[show (Ad.mk a e g f b).p=a from rfl,hr rfl,ij]
  rw[show (Ad.mk a e g f b).p=a from rfl,wk,i];simp only[hq];rw[xj a b _ h.1,Xq,mH,Ad.tr];rfl
def ao7 {a:Ad}(h:a.tr.iA=0):a.kd=35->a.ks≠[]:=by
 intro c f;have b:=(Zd _ h).1;obtain⟨d,_,e⟩:=a.Yb;rw[d,e,f,c] at b;exact absurd b PK
def Vs {a:Ad}(h:a.tr.iA=0):∀b ∈ a.ks,b.tr.iA=0:=by
 intro b c;refine(Zd _ h).2 _ ?_;rw[a.Yb.2.2];exact iu c
def aI2:WU 230:=λ_ _=>by kernel_rfl
def Pb {B:Nat->Prop}(b:Ad)(a:Py)(q:Rl B a b)(w:b.TB.Nodup)(s:b.tr.iA=0)(r:b.hU<=90000) :
  PN 165 #[Pm b.p] a λo k=>o=PY (PD (Xq b.tr))/\PG a k:=by
 obtain⟨g,f⟩:∃g,g=(a.alloc (.cells #[Pm b.p] 22)).alloc (.cells #[PD false] 4):=⟨_,rfl⟩;have p:PG a g:=by
  rw[f];exact QK.alloc Qh _
 have O:g.heap.size=a.heap.size+2:=by rw[f];simp
 have u:(a.alloc (.cells #[Pm b.p] 22)).heap.size=a.heap.size+1:=by simp
 obtain⟨_,I,_⟩:=q.cells;have A:Rl (λd=>d<a.heap.size+2/\d≠a.heap.size+1) g b:=
  Rl.fQ (I:=λd=>d<a.heap.size+2/\d≠a.heap.size+1) (λd l z=>p.block d z) _ (Rl.mono (λd _ z=>⟨by omega,by omega⟩) _ q)
 have N:vc (a.heap.size+1) a.heap.size b.p false g:=by
  refine⟨?_,?_,A.cl⟩
  ·rw[f,<-u];exact Pz _ _
  ·rw[f,gy _ _ _ Qh];exact Pz _ _
 have c:=Y (Of 230 (PZ (a.heap.size+1) 0) (PZ a.heap.size 0) (λd=>d<a.heap.size+2/\d≠a.heap.size+1) (Ap (a.heap.size+1) (a.heap.size+2)) (vc (a.heap.size+1) a.heap.size b.p) (iS b.p) (λ_ m=>∀x ∈ m,x.tr.iA=0) aI2 (λW=>by kernel_rfl)
  (λ_ _ _ h i=>h.trans i) (λa k h=>⟨λd l _=>h.block d l.1 l.2,h.size⟩)
  (λd x m h y e=>by
   rcases gB.1 e with e|e
   ·split at e
    ·exact Vs (h x Qh) y e
    ·
     cases e
   ·exact h y (by simp[e]))
  (λd x m k h j E=>by
   refine(ajP j E (ao7 (h x Qh)) (λy e=>e.2) Pv Pv).mono ?_;rintro o n ⟨rfl,rfl⟩;refine⟨rfl,⟨by rw[gb j.found];rfl,?_,?_⟩,Ap.setCell (R:=a.heap.size+1) (Ap.refl _ _ _) (p:=(Pn (a.heap.size+1) 0)) (f4 rfl) _⟩
   ·rw[gZ _ (Pn (a.heap.size+1) 0) _ _ Qh];exact j.word
   ·obtain⟨F,R,H⟩:=j.node;exact⟨F,R,by rw[gZ _ (Pn (a.heap.size+1) 0) _ _ (by show b.p≠a.heap.size+1;omega)];exact H⟩)
  b.hU b Qq r [] false g (λx j=>by rw[gn.1 j];exact s) N A)
 rw[UX b false w,hL] at c
 generalize Xq b.tr=M at c
 generalize b.p=T at c f
 have C:=Y p;rw[f] at c;have D:=Y f;clear O u w r s I f;go_enter func165,ntmps165;go_wp2_with fail;refine XO ?_;rintro o n ⟨rfl,P,_,v⟩;have S:n.cell? (Pn (a.heap.size+1) 0)=some (PD M):=by rw[cell_of P.found];rfl
 rw[<-D.out] at v;have L:Hid (PG a n):=C.out.trans ((v.mono Pv).below Pv);go_wp2;go_ret;exact⟨rfl,L.out⟩
abbrev Us:=Int×Int×Bool
def jz (a:Us):List PO:=[Ph a.1,Ph a.2.1,PD a.2.2]
def Tc (a:List Us):List PO:=a.flatMap jz
def M5 (a:List Us):(Tc a).length=a.length * 3:=by
 induction a with
 |nil=>rfl
 |cons b a c=>
  have:Tc (b::a)=jz b++Tc a:=rfl;rw[this,gg,c,g4];simp[jz];omega
def Cy (a b:List Us):Tc (a++b)=Tc a++Tc b:=iT
abbrev RG:PS:=⟨#[97,114,103,117,109,101,110,116,115]⟩
def il (b:Tr->Nat->List Sc->Bool->List Us):List Tr->Nat->List Sc->Bool->List Us
 |[],_,_,_=>[]
 |d::e,no,a,c=>b d no a c++il b e (no+d.count) a c
def oc (c d a:Tr)(no:Nat)(b:List Sc)(e:Bool):List Sc:=
 ⟨no,(d.fS.map Tr.tx++[RG])++gp a true,!(e||PU a)&&Xq a⟩::(if c.kd==37 then ⟨no,[c.tx],false⟩::b else b)
def tl:Nat->Tr->Nat->List Sc->Bool->List Us
 |0,_,_,_,_=>[]
 |d+1,a,no,b,c=>
  if a.kd=23 then ((no:Int),(VN b a.tx true).1,(VN b a.tx true).2)::il (tl d) a.fS (no+1) b (c||PU a)
  else if a.kd=1 then il (tl d) a.fS (no+1) (⟨no,(Qi a).map Tr.tx,false⟩::b) (c||PU a)
  else if a.kd=6 then il (tl d) a.fS (no+1) (⟨no,gp a false,false⟩::b) (c||PU a)
  else if a.kd=13 then il (tl d) a.fS (no+1) (⟨no,[a.tx],false⟩::b) (c||PU a)
  else if a.kd=9 then match a.fS with
   |e::f::_=>tl d e (no+1) b (c||PU a)++tl d f (no+1+e.count) (⟨0,[],true⟩::b) (c||PU a)
   |_=>[]
  else if a.kd=5\/a.kd=37 then match a.fS with
   |f::e::_=>il (tl d) e.fS (no+1+f.count+1) (oc a f e no b (c||PU a)) (c||PU a||PU e)
   |_=>[]
  else if a.kd=40 then []
  else il (tl d) a.fS (no+1) b (c||PU a)
def Ix (e:Tr->Nat->List Sc->Bool->List Us):∀(a b:List Tr)(no:Nat)(c:List Sc)(d:Bool),il e (a++b) no c d=il e a no c d++il e b (no+Tr.f5 a) c d
 |[],b,no,c,d=>by rw[P8];rfl
 |f::a,b,no,c,d=>by
  rw[hR,il,il,Ix e a b,PW,hI,jt]
def asA (d:Tr->Nat->List Sc->Bool->List Us)(b:List Tr)(a:Nat)(f:a<b.length)(no:Nat)(c:List Sc)(e:Bool):il d (b.take (a+1)) no c e=il d (b.take a) no c e++d b[a] (no+Tr.f5 (b.take a)) c e:=by
 rw[ha f,Ix];simp[il]
structure Fm (I:Nat->Prop)(w w':Py):Prop where
 os:w'.os=w.os
 tape:w'.tape=w.tape
 output:w'.output=w.output
 size:w.heap.size<=w'.heap.size
 ht:Uz I w w'
def Fm.trans {b:Nat->Prop}{c e f:Py}(h:Fm b c e)(a:Fm b e f):Fm b c f:=
 ⟨a.os.trans h.os,a.tape.trans h.tape,a.output.trans h.output,gr h.size a.size,λx d g=>(a.ht x d (gH g h.size)).trans (h.ht x d g)⟩
def Fm.of {c:Nat->Prop}{b a:Py}(h:PG b a):Fm c b a:=⟨h.os,h.tape,h.output,h.size,λd _ e=>h.block d e⟩
def Fm.less {c d:Nat->Prop}{e b:Py}(h:Fm d e b)(g:∀a,c a->d a):Fm c e b:=⟨h.os,h.tape,h.output,h.size,λa f i=>h.ht a (g a f) i⟩
def Fm.refl (b:Nat->Prop)(a:Py):Fm b a a:=⟨rfl,rfl,rfl,Qq,λ_ _ _=>rfl⟩
section
variable {d:Nat->Prop}{b c:Py}(h:Fm d b c)
include d b c h
def Fm.cell {a e:Nat}(f:d a)(g:a<b.heap.size):c.cell? (Pn a e)=b.cell? (Pn a e):=gN (w:=b) (a:=(Pn a e)) (h.ht a f g)
def Cl.fm {a:Nat}(i:d a)(f:Cl b a):Cl c a:=by
 obtain⟨g,j,e⟩:=f;exact⟨g,j,by rw[h.ht a i (fR e)];exact e⟩
end
structure TW (I:Nat->Prop)(tb mb:Nat)(A:List Nat)(L:List Us)(w:Py):Prop where
 gG:∃v,w.heap[tb]?=some (Qb #[.map (some mb),v] 96)/\w.ownsRow 0 52 3 v L.length (Tc L)/\(∀b,I b->v.ownBlock≠some b)/\v.ownBlock≠some tb
 map:w.heap[mb]?=some (.map (XF (VZ A)) A.length)
 v7:I mb
 ne:∀b,I b->b<w.heap.size/\b≠tb
 cl:∀p ∈ A,I p/\Cl w p
 nd:A.Nodup
section
variable {I:Nat->Prop}{d e:Nat}{f:List Nat}{g:List Us}{w w':Py}(h:TW I d e f g w)(c:PG w w')
include I d e f g w w' h c
def TW.fQ:TW I d e f g w':=by
 obtain⟨⟨t,m,o,q,p⟩,k,r,l,b,s⟩:=h;exact⟨⟨t,by rw[c.block d (fR m)];exact m,Qw (a:=λ_=>True) (Below.ht c) (λ_ _=>trivial) o,q,p⟩,by rw[c.block e (fR k)];exact k,r,λj n=>⟨gH (l j n).1 c.size,(l j n).2⟩,λi a=>⟨(b i a).1,Cl.fm (Fm.of c) (b i a).1 (b i a).2⟩,s⟩
def TW.more:TW (λb=>I b\/(w.heap.size<=b/\b<w'.heap.size)) d e f g w':=by
 obtain⟨⟨B,i,p,r,q⟩,u,t,A,n,v⟩:=h.fQ c;obtain⟨⟨k,j,z,C,D⟩,_⟩:=h;have s:k=B:=by
  rw[c.block d (fR j),j] at i;simpa using i
 subst s;refine⟨⟨k,i,p,λb a m=>?_,q⟩,u,fU t,λb a=>?_,λo l=>⟨fU (n o l).1,(n o l).2⟩,v⟩
 ·rcases a with a|a
  ·exact r b a m
  ·have:=(Qm z b m).1;omega
 ·rcases a with a|a
  ·exact A b a
  ·have:=fR j;exact⟨a.2,by omega⟩
end
def TW.less {d i:Nat->Prop}{f e:Nat}{b:List Nat}{o n:List Us}{A g:Py}(h:TW i f e b n g)(l:TW d f e b o A)(k:∀a,d a->i a):TW d f e b n g:=by
 obtain⟨⟨z,w,p,r,q⟩,s,B,v,u,t⟩:=h;exact⟨⟨z,w,p,λa c=>r a (k a c),q⟩,s,l.v7,λa c=>v a (k a c),λm j=>⟨(l.cl m j).1,(u m j).2⟩,t⟩
def uP (j:Nat):Prop:=∀(a:Ad),a.hU<=j->∀(b:Nat->Prop)(f k:Nat)(d l p:List Nat)(e:List Us)(n:PO)(i:List Sc)(m:Bool)(c:Py),
 d=l++(a.TB++p)->TW b f k d e c->Rl b c a->a.tr.iA=0->YD b c n i->e.length+a.hU<=20000 ->
 PN 39 #[QI f,Pm a.p,RX n m] c λo g=>o=PY (.tuple #[])/\TW b f k d (e++tl j a.tr l.length i m) g/\Fm b c g
def rF (a:(Int×PO)×Nat):MapEntry:={ key:=Ph a.1.1,val:=a.1.2,born:=a.2 }
def XK (a:List (Int×PO)):Array MapEntry:=((a.zipIdx).map rF).toArray
def wx (b:Int):∀(d:List (Int×PO))(e c:Nat),
  ∃f,Instr.findNow (.int .i64) (Ph b) ((d.zipIdx e).map rF) c=some f/\f.map (·.2)=(d.find? (λa=>decide (b=a.1))).map (·.2)
 |[],e,c=>⟨none,rfl,rfl⟩
 |a::d,e,c=>by
  have g:(b==a.1)=decide (b=a.1):=rfl;simp only[kE,hv,Instr.findNow,rF,Instr.sameNow,hq,g,jq]
  cases h:decide (b=a.1)
  ·simp only;exact wx b d (e+1) (c+1)
  ·exact⟨some (c,a.2),rfl,rfl⟩
def aiP (l n:TypeId)(k f:Nat)(a:List (Int×PO))(b:Int)(m:PO)(W:Py)(u:prog.underlying l=some (.map 3 n))(s:W.heap[k]?=some (.map (XK a) f))(o:(zeroValue n).run prog W=.ok m W) :
  (Instr.lookup l (.map (some k)) (Ph b) true).run prog W=.ok (.tuple #[((a.find? (λc=>decide (b=c.1))).map (·.2)).getD m,PD (a.find? (λc=>decide (b=c.1))).isSome]) W:=by
 obtain⟨j,v,d⟩:=wx b a 0 0;have g:=underlying3;have p:(Instr.findKey 3 (Ph b) (XK a).toList).run prog W=.ok j W:=by
  refine s6 ?_;simp only[h5,XK];rw[v];rfl
 unfold Instr.lookup;rw[gW,hx u W];have q:∀e,(Instr.checkKey e 10000 3 (Ph b)).run prog W=.ok () W:=tP
 have r:(getObj k).run prog W=.ok (.map (XK a) f) W:=by simp[getObj,Sem.run,s]
 exact HC
def Rr (a:List (Int×PO))(b:Int)(c:PO):(XK a).push { key:=Ph b,val:=c,born:=a.length }=XK (a++[(b,c)]):=by
 unfold XK;rw[lW,hc];simp[rF,List.zipIdx]
def NM (i u:TypeId)(c:Nat)(a:List (Int×PO))(b:Int)(l:PO)(W:Py)(p:prog.underlying i=some (.map 3 u))(j:W.heap[c]?=some (.map (XK a) a.length))(o:a.find? (λd=>decide (b=d.1))=none) :
  (Instr.mapUpdate i (.map (some c)) (Ph b) l).run prog W=.ok () (Q8 W c (.map (XK (a++[(b,l)])) (a.length+1))):=by
 obtain⟨k,r,d⟩:=wx b a 0 0;have g:=underlying3;have m:k=none:=by
  rw[o] at d
  cases k with
  |none=>rfl
  |some y=>simp at d
 subst m;have n:(Instr.findKey 3 (Ph b) (XK a).toList).run prog W=.ok none W:=by
  refine s6 ?_;simp only[h5,XK];rw[r];rfl
 have q:∀e,(Instr.checkKey e 10000 3 (Ph b)).run prog W=.ok () W:=tP
 have s:(getObj c).run prog W=.ok (.map (XK a) a.length) W:=by simp[getObj,Sem.run,j]
 unfold Instr.mapUpdate;rw[gW,hx p W];simp only[h5,gW,s,q,n];rw[Rr];simp[setObj,Sem.run,j,Q8]
def wP {e:Tr->Nat->List Sc->Bool->List Us}(f:∀c no a b,(e c no a b).length<=c.count):∀(d:List Tr)(no:Nat)(a:List Sc)(b:Bool),(il e d no a b).length<=Tr.f5 d
 |[],_,_,_=>ge _
 |c::d,no,a,b=>by
  rw[il,gg,PW];have i:=f c no a b;have g:=wP f d (no+c.count) a b;omega
def Vl (a:Tr):a.count=1+Tr.f5 a.fS:=by cases a with|mk c e b d=>exact f9 _ _ _ _
def pY:∀(e:Nat)(a:Tr)(no:Nat)(c:List Sc)(b:Bool),(tl e a no c b).length<=a.count
 |0,_,_,_,_=>ge _
 |e+1,a,no,c,b=>by
  have d:=wP (e:=tl e) (pY e);have i:=Vl a;rw[tl]
  split
  ·have:=d a.fS (no+1) c (b||PU a);rw[g4];omega
  split
  ·have:=d a.fS (no+1) (⟨no,(Qi a).map Tr.tx,false⟩::c) (b||PU a);omega
  split
  ·have:=d a.fS (no+1) (⟨no,gp a false,false⟩::c) (b||PU a);omega
  split
  ·have:=d a.fS (no+1) (⟨no,[a.tx],false⟩::c) (b||PU a);omega
  split
  ·split
   ·rename_i f j m g
    rw[g,PW,PW] at i;have l:=pY e f (no+1) c (b||PU a);have k:=pY e j (no+1+f.count) (⟨0,[],true⟩::c) (b||PU a);rw[gg];omega
   ·exact ge _
  split
  ·split
   ·rename_i j f m g
    rw[g,PW,PW] at i;have l:=d f.fS (no+1+j.count+1) (oc a j f no c (b||PU a)) (b||PU a||PU f);have k:=Vl f;omega
   ·exact ge _
  split
  ·exact ge _
  ·have:=d a.fS (no+1) c (b||PU a);omega
def YD.ptr {b:Nat->Prop}{e:Py}{d:List Sc}{a:PO}(h:YD b e a d):∃c,a=.pointer c:=by
 rcases h.form with h|⟨f,h,_⟩ <;> exact⟨_,h⟩
def aow (a:List Ad)(b:Nat)(c:b<a.length):Ad.g1 (a.take b)+(a[b]).hU<=Ad.g1 a:=by
 have d:Ad.g1 a=Ad.g1 (a.take b)+Ad.g1 (a.drop b):=by rw[<-Hf,jm]
 rw[h7 c,Ad.g1] at d;omega
def AB (a:List Ad):Tr.f5 (a.map Ad.tr)=Ad.g1 a:=by rw[<-qE,Ad.vh]
def Zw {p:Nat}(bi:uP p)(a:List Ad)(ap:∀i ∈ a,i.hU<=p)(l:Nat->Prop)(r A:Nat)(n m aW:List Nat)(u:List Us)(aZ:PO)(o:List Sc)(k:Bool)(U:PO)(d:Py)(aH:n=m++(Ad.RQ a++aW))(au:TW l r A n u d)(aE:∀i ∈ a,Rl l d i)(aD:∀i ∈ a,i.tr.iA=0)(w:YD l d aZ o)(ax:d.ownsRow 0 22 1 U (a.map Ad.p).length ((a.map Ad.p).map Pm))(al:∀e,U.ownBlock=some e->l e)(q:u.length+Ad.g1 a<=20000) :
  PN 79 #[QI r,U,RX aZ k] d λaL ad=>aL=PY (.tuple #[])/\TW l r A n (u++il (tl p) (a.map Ad.tr) m.length o k) ad/\Fm l d ad:=by
 obtain⟨v,rfl⟩:=w.ptr;obtain⟨bN,bO,aR⟩:=P7 ax;rw[gF] at aR;subst aR;obtain⟨f,z⟩:∃f,f=d.alloc (.cells #[.pointer v,PD k] 100):=⟨_,rfl⟩;have D:PG d f:=by rw[z];exact QK
 have bE:f.heap.size=d.heap.size+1:=by rw[z];simp
 have aI:f.heap[d.heap.size]?=some (Qb #[.pointer v,PD k] 100):=by rw[z];exact Pz _ _
 obtain⟨g,H⟩:∃g:Nat->Prop,g=λb=>l b\/(d.heap.size<=b/\b<f.heap.size):=⟨_,rfl⟩;have B:∀b,l b->g b:=λb s=>by rw[H];exact fU s
 have bD:TW g r A n u f:=by rw[H];exact au.more D
 have ak:g d.heap.size:=by rw[H];exact f4 ⟨Qq,by omega⟩
 have aM:∀i ∈ a,Rl g f i:=λi ah=>Rl.fQ (λb _ q=>D.block b q) _ (Rl.mono (λb s _=>B b s) _ (aE i ah));have bK:YD g f (.pointer v) o:=YD.fQ (λb _ q=>D.block b q) _ _ (YD.mono (λb s _=>B b s) _ _ w);have bQ:a.length<=20000:=by have:=zh a;omega
 have bn:=Y bi;have bA:=Y ap;have bG:=Y aH;have br:=Y au;have bH:=Y bD;have bo:=Y aM;have bv:=Y aD;have bm:=Y bK;have aJ:=Y ax;have bJ:=Y (λe I=>B e (al e I));have bh:=Y q;have O:=Y D;have R:=Y aI;have af:=Y ak;have ae:=Y B;have a8:=Y z;clear ap aH aE aM aD al q aI ak B bE H z;go_enter func79,ntmps79;go_wp2_with fail;rw[<-a8.out]
 go_loopw [10] (λP wr=>∃i:Nat,i<=a.length/\P=Ph i/\TW g r A n (u++il (tl p) ((a.take i).map Ad.tr) m.length o k) wr/\Fm g f wr) (λP _=>a.length - (intOf P).toNat)
 case atStart=>exact⟨0,ge _,rfl,by simpa[il] using bH.out,Fm.refl _ _⟩
 case round=>
  obtain⟨i,ah,rfl,I,a6⟩:=hrel;have aX:=Y I;have j:=Y a6;clear I
  by_cases C:i<a.length
  ·obtain⟨e,bL,ay,aO⟩:=UC aJ.out (by rw[gF];omega)
   simp only[g7] at ay;obtain⟨rfl,bb,rfl⟩:=ay;clear bb;have a7:(a.map Ad.p).length=a.length:=gF _;have aK:i<(a.map Ad.p).length:=Pv;have aY:=Pj bJ e rfl;have N:=(Qm aJ.out e rfl).1;have X:e<f.heap.size:=gH N O.out.size;obtain⟨S,M⟩:∃S,S=(a[i]).p:=⟨_,rfl⟩;have bj:wr.cell? (Pn e i)=some (Pm S):=by
    rw[j.out.cell aY X,O.out.cell (p:=(Pn e i)) N,aO i aK,jS,M]
   have E:=fR R.out;have be:wr.cell? (Pn d.heap.size 0)=some (.pointer v):=by rw[j.out.cell af.out E,cell_of R.out];rfl
   have bF:wr.cell? (Pn d.heap.size 1)=some (PD k):=by rw[j.out.cell af.out E,cell_of R.out];rfl
   have bR:d.heap.size<wr.heap.size:=gH E j.out.size;have bS:e<wr.heap.size:=gH X j.out.size;have L:=gU C;have bI:=aow a i C;have aT:=wP (e:=tl p) (pY p) ((a.take i).map Ad.tr) m.length o k;rw[AB] at aT;have ba:=Pj bh;have aQ:n=(m++Ad.RQ (a.take i))++((a[i]).TB++(Ad.RQ (a.drop (i+1))++aW)):=by
    rw[bG.out];have F:Ad.RQ a=Ad.RQ (a.take i)++((a[i]).TB++Ad.RQ (a.drop (i+1))):=by
     rw[<-Ad.RQ,<-h7 C,<-wO,jm]
    rw[F];simp only[hI]
   have w:=Pj bn (a[i]) (Pj bA _ L) g r A n _ _ _ (.pointer v) o k wr aQ aX.out (Rl.fQ j.out.ht _ (Pj bo _ L)) (Pj bv _ L) (YD.fQ j.out.ht _ _ bm.out) (by rw[gg];omega)
   rw[<-M] at w;have c:=Y w;have a1:(m++Ad.RQ (a.take i)).length=m.length+Tr.f5 ((a.map Ad.tr).take i):=by rw[gg,Ad.xt,<-lu,AB]
   have T:=asA (tl p) (a.map Ad.tr) i (by rw[gF];exact C) m.length o k
   rw[jS,<-a1,<-lu,<-lu] at T;have bB:=Y T;have bP:(i:Int)<(a.length:Int):=Pv;clear aO M E L bI aT ba aQ a1 T a7 X N aY aK;go_wp2_with fail;refine XO ?_;rintro aL bU ⟨rfl,bf,bx⟩;have bz:=Y bf;have bq:=Y (j.out.trans bx);clear bj be bF;go_wp2
   go_roundw
   case rel=>exact⟨i+1,by omega,by go_num,by rw[bB.out,<-hI];exact bz.out,bq.out⟩
   case measure=>simp[intOf];omega
  ·have c:i=a.length:=Pv;subst c;go_wp2
   go_end0
   have F:=Pj aX;rw[gV] at F;exact⟨rfl,F.less br.out ae.out,(Fm.of O.out).trans (j.out.less ae.out)⟩
def Ord (f d:Nat)(a:List Us):Prop:=a.Pairwise (λc e=>c.1<e.1)/\∀b ∈ a,(f:Int)<=b.1/\b.1<(d:Int)
def Ord.nil (b a:Nat):Ord b a []:=⟨List.Pairwise.nil,λ_ h=>absurd h Qh⟩
def Ord.wide {d b a e:Nat}{c:List Us}(h:Ord d b c)(j:a<=d)(i:b<=e):Ord a e c:=⟨h.1,λg f=>by have:=h.2 g f;omega⟩
def Ord.rZ {f b e:Nat}{g i:List Us}(d:Ord f b g)(c:Ord b e i)(p:f<=b)(m:b<=e):Ord f e (g++i):=by
 refine⟨List.pairwise_append.2 ⟨d.1,c.1,λx k y l=>?_⟩,λj a=>?_⟩
 ·have n:=(d.2 x k).2;have o:=(c.2 y l).1;omega
 ·rcases gB.1 a with a|a
  ·have:=d.2 j a;omega
  ·have:=c.2 j a;omega
def Ar {e:Tr->Nat->List Sc->Bool->List Us}(f:∀c no a b,Ord no (no+c.count) (e c no a b)):∀(d:List Tr)(no:Nat)(a:List Sc)(b:Bool),Ord no (no+Tr.f5 d) (il e d no a b)
 |[],no,_,_=>Ord.nil _ _
 |c::d,no,a,b=>by
  rw[il,PW];refine Ord.rZ (f c no a b) ((Ar f d (no+c.count) a b).wide Qq Pv) Pv Pv
def rY:∀(c:Nat)(a:Tr)(no:Nat)(e:List Sc)(f:Bool),Ord no (no+a.count) (tl c a no e f)
 |0,_,_,_,_=>Ord.nil _ _
 |c+1,a,no,e,f=>by
  have b:=Ar (e:=tl c) (rY c);have j:=Vl a;rw[tl]
  split
  ·have h:=b a.fS (no+1) e (f||PU a);refine⟨List.pairwise_cons.2 ⟨λg d=>?_,h.1⟩,λg d=>?_⟩
   ·have:=(h.2 g d).1
    show (no:Int)<g.1
    omega
   ·rcases gE.1 d with rfl|d
    ·show (no:Int)<=(no:Int)/\(no:Int)<((no+a.count:Nat):Int)
     omega
    ·have:=h.2 g d;omega
  split
  ·exact(b a.fS (no+1) _ _).wide Pv Pv
  split
  ·exact(b a.fS (no+1) _ _).wide Pv Pv
  split
  ·exact(b a.fS (no+1) _ _).wide Pv Pv
  split
  ·split
   ·rename_i d g k i
    rw[i,PW,PW] at j;exact(Ord.rZ (rY c d (no+1) e (f||PU a)) (rY c g (no+1+d.count) (⟨0,[],true⟩::e) (f||PU a)) Pv Pv).wide Pv Pv
   ·exact Ord.nil _ _
  split
  ·split
   ·rename_i g d k i
    rw[i,PW,PW] at j;have l:=Vl d;exact(b d.fS (no+1+g.count+1) _ _).wide Pv Pv
   ·exact Ord.nil _ _
  split
  ·exact Ord.nil _ _
  ·exact(b a.fS (no+1) _ _).wide Pv Pv
def Rl.wT {f:Nat->Prop}{b:Py}{c j i:Ad}{k:List Ad}(h:Rl f b c)(l:c.ks=j::i::k):∃a e,b.cell? (Pn c.p 3)=some (.slice (some (Pn a 0)) (k.length+2) e)/\a<b.heap.size/\b.cell? (Pn a 0)=some (Pm j.p)/\b.cell? (Pn a 1)=some (Pm i.p)/\f a:=by
 obtain⟨_,_,_,_,o,n,d,m⟩:=h.cells;rw[l] at d;obtain⟨a,e,rfl,g⟩:=UC d Qh;refine⟨a,e,?_,(Qm d a rfl).1,?_,?_,m a rfl⟩
 ·rw[n];simp
 ·have:=g 0 Qh;simpa using this
 ·have:=g 1 Qh;simpa using this
def atr {b c:List Nat}{a:Nat}{d:List Nat}(h:(b++((a::d)++c)).Nodup):(b++((a::d)++c)).idxOf a=b.length:=by
 have f:a ∉ b:=by
  rw[ja] at h;exact λe=>h.2.2 a e a Qh rfl
 rw[List.idxOf_append,fT f];simp
def TW.num {j:Nat->Prop}{r b:Nat}{a n q:List Nat}{p:List Us}{o c:Py}{d:Ad}(h:TW j r b a p o)(g:a=n++(d.TB++q))(f:Fm j o c) :
  (Instr.lookup 80 (.map (some b)) (Pm d.p) false).run prog c=.ok (Ph (n.length:Int)) c:=by
 have e:d.p ∈ a:=by rw[g,WS];simp
 have i:=ajQ b a.length (VZ a) d.p c (by rw[f.ht b h.v7 (h.ne b h.v7).1];exact h.map) (Cl.fm f (h.cl _ e).1 (h.cl _ e).2) (λs m=>Cl.fm f (h.cl _ (Zf m)).1 (h.cl _ (Zf m)).2)
 rw[OH e] at i;have k:=h.nd;rw[g,WS] at k;have l:=atr k;rw[<-WS,<-g] at l;rw[l] at i;exact i
def TW.word {f:Nat->Prop}{a d:Nat}{e:List Nat}{g:List Us}{b:Py}(h:TW f a d e g b):b.cell? (Pn a 0)=some (.map (some d))/\a<b.heap.size:=by
 obtain⟨⟨i,c,_⟩,_⟩:=h;exact⟨by rw[cell_of c];rfl,fR c⟩
def V3 {c:Py}{b a d:Nat}(h:a≠b)(e:PO):(c.setCell (Pn b d) e).heap[a]?=c.heap[a]?:=gZ c (Pn b d) e a h
structure oP (w:Py)(p tb mb no:Nat)(kd:Int)(tx:PS)(bM bu:Nat)(cW ev:Bool)(P N:List PS):Prop where
 c0:w.cell? (Pn p 0)=some (Ph kd)
 c1:w.cell? (Pn p 1)=some (PI tx)
 fS:∃g n cap,2<=n/\w.cell? (Pn p 3)=some (.slice (some (Pn g 0)) n cap)/\w.cell? (Pn g 0)=some (Pm bM)/\w.cell? (Pn g 1)=some (Pm bu)
 word:w.cell? (Pn tb 0)=some (.map (some mb))
 num:∀X,PG w X->(Instr.lookup 80 (.map (some mb)) (Pm p) false).run prog X=.ok (Ph (no:Int)) X
 st:∀X,PG w X->PN 58 #[Pm bu] X λe w'=>e=PY (PD cW)/\w'=X
 tx:∃cI uc,w.cell? (Pn bM 3)=some (.slice cI P.length uc)/\∀X,PG w X->PN 76 #[.slice cI P.length uc] X λe w'=>(∃u,e=PY u/\QV X.heap.size w' u P)/\PG X w'
 nm:∀X,PG w X->PN 78 #[Pm bu,PD true] X λe w'=>(∃u,e=PY u/\QV X.heap.size w' u N)/\PG X w'
 ev:∀X,PG w X->PN 165 #[Pm bu] X λe w'=>e=PY (PD ev)/\PG X w'
 lp:P.length<=20000
 ln:N.length<=70000
def Nc (g b:Py)(c:Option Addr)(no:Nat)(d:Int)(j:PS)(i:Nat)(f:PO):Prop:=
 ((d==37)=false/\f=.pointer c)\/((d==37)=true/\∃a e,f=QI a/\g.heap.size<=a/\a<i/\b.heap[a]?=some (Xr no e false (.pointer c))/\QV g.heap.size b e [j])
def oY (c:Py)(f:Option Addr)(no:Nat)(i:Int)(l:PS)(qD k:Bool)(j:List PS)(g:Ending)(a:Py):Prop:=
 (∃b d e,g=PY (RX (QI b) qD)/\c.heap.size<=b/\a.heap[b]?=some (Xr no d k e)/\QV c.heap.size a d j/\Nc c a f no i l b e)/\PG c a
def aI4 (w:Py)(e f r no L R:Nat)(B:PS)(C E:Bool)(P z:List PS)(c:Option Addr)(h:oP w e f r no 5 B L R C E P z) :
  PN 80 #[QI f,Pm e,RX (.pointer c) true] w (oY w c no 5 B true false ((P++[RG])++z)):=by
 have a{G}(h:G:=by
 have a{G}(h:G:=by
 have a{G}(h:G:=by
 have bR:q.cell? (Pn w.heap.size 1)=some (PD true):=by rw[cell_of aW];rfl
 have a{G}(h:G:=by
 have aX:=Y aQ;have a{G}(h:G:=by
 clear bS cw cr;exact Gz):=Pq h;exact pG):=Pq h;exact wU):=Pq h;exact Ev):=Pq h;exact Ho):=Pq h;exact p8
def aBQ (w:Py)(e f r no L R:Nat)(B:PS)(C:Bool)(P z:List PS)(c:Option Addr)(h:oP w e f r no 5 B L R true C P z) :
  PN 80 #[QI f,Pm e,RX (.pointer c) false] w (oY w c no 5 B true false ((P++[RG])++z)):=by
 have a{G}(h:G:=by
 have bG:=Y bz;have bA:=Y a1;have bq:=Y a6;have a{G}(h:G:=by
 have aX:=Y aQ;have a{G}(h:G:=by
 have a{G}(h:G:=by
 clear bv bF;exact Gz):=Pq h;exact sQ):=Pq h;exact pG):=Pq h;exact sW):=Pq h;exact p8
def MC (w:Py)(e f r no L R:Nat)(B:PS)(ap:Bool)(P z:List PS)(c:Option Addr)(h:oP w e f r no 5 B L R false ap P z) :
  PN 80 #[QI f,Pm e,RX (.pointer c) false] w (oY w c no 5 B false ap ((P++[RG])++z)):=by
 have a{G}(h:G:=by
 have bG:=Y bz;have bA:=Y a1;have bq:=Y a6;have cJ:=Y cn;have a{G}(h:G:=by
 have aX:=Y aQ;have a{G}(h:G:=by
 have a{G}(h:G:=by
 clear bv bF;go_wp2_with fail;obtain⟨b,n⟩:∃b,b=q.setCell (Pn w.heap.size 1) (PD false):=⟨_,rfl⟩;have a{G}(h:G:=by
 have u:b.heap[w.heap.size]?=some (Qb #[.pointer c,PD false] 100):=by rw[n,gb bQ.out];rfl
 have a{G}(h:G:=by
 have a{G}(h:G:=by
 have s:Hid (b.cell? (Pn w.heap.size 1)=some (PD false)):=by show _=_;rw[cell_of ae.out];rfl
 have a{G}(h:G:=by
 refine ug 0 (RX (.pointer c) false) rfl (fU ⟨by kernel_rfl,λt j=>by have aD:=PV j D.out;have ah:=PV j s.out;go_simp⟩) g ?_
 have a{G}(h:G:=by
 refine tE ?_;refine ug 12 (PD false) rfl (fU ⟨by kernel_rfl,λt j=>by have ah:=PV j s.out;go_simp⟩) g ?_
 refine uh 13 (PD true) g ?_;have a{G}(h:G:=by
 clear d K;have a{G}(h:G:=by
 refine Bl ?_;exact fU ⟨by decide,rfl⟩):=Pq h;exact Jf):=Pq h;exact ts):=Pq h;exact ny):=Pq h;exact rV):=Pq h;exact rR):=Pq h;exact AL):=Pq h;exact IB):=Pq h;exact sQ):=Pq h;exact pG):=Pq h;exact sW):=Pq h;exact p8
def aBW (w:Py)(e f r no L R:Nat)(E:PS)(ap bv:Bool)(P z:List PS)(c:Option Addr)(h:oP w e f r no 37 E L R ap bv P z) :
  PN 80 #[QI f,Pm e,RX (.pointer c) true] w (oY w c no 37 E true false ((P++[RG])++z)):=by
 have a{G}(h:G:=by
 have a{G}(h:G:=by
 have a{G}(h:G:=by
 have bR:q.cell? (Pn w.heap.size 1)=some (PD true):=by rw[cell_of aW];rfl
 have a{G}(h:G:=by
 have b7:=Y bD;have aX:=Y aQ;have b8:=Y ba;have ce:=Y bb;have a{G}(h:G:=by
 clear bS cw cr;exact Ju):=Pq h;exact pG):=Pq h;exact wU):=Pq h;exact Ev):=Pq h;exact Ho):=Pq h;exact p8
section
variable (w:Py)(e f r no L R:Nat)(E:PS)(ap:Bool)(P z:List PS)(c:Option Addr)
include w e f r no L R E ap P z c
def axt (h:oP w e f r no 37 E L R true ap P z) :
  PN 80 #[QI f,Pm e,RX (.pointer c) false] w (oY w c no 37 E true false ((P++[RG])++z)):=by
 have a{G}(h:G:=by
 have bG:=Y bz;have bA:=Y a1;have bq:=Y a6;have a{G}(h:G:=by
 have b7:=Y bD;have aX:=Y aQ;have b8:=Y ba;have ce:=Y bb;have a{G}(h:G:=by
 have a{G}(h:G:=by
 clear bv bF;exact Ju):=Pq h;exact sQ):=Pq h;exact pG):=Pq h;exact sW):=Pq h;exact p8
def Og (h:oP w e f r no 37 E L R false ap P z) :
  PN 80 #[QI f,Pm e,RX (.pointer c) false] w (oY w c no 37 E false ap ((P++[RG])++z)):=by
 have a{G}(h:G:=by
 have bG:=Y bz;have bA:=Y a1;have bq:=Y a6;have cJ:=Y cn;have a{G}(h:G:=by
 have b7:=Y bD;have aX:=Y aQ;have b8:=Y ba;have ce:=Y bb;have a{G}(h:G:=by
 have a{G}(h:G:=by
 clear bv bF;go_wp2_with fail;obtain⟨n,C⟩:∃n,n=q.setCell (Pn w.heap.size 1) (PD false):=⟨_,rfl⟩;have a{G}(h:G:=by
 have b6:n.heap[w.heap.size]?=some (Qb #[.pointer c,PD false] 100):=by rw[C,gb bQ.out];rfl
 have a{G}(h:G:=by
 have s:Hid (n.cell? (Pn w.heap.size 1)=some (PD false)):=by show _=_;rw[cell_of bx.out];rfl
 have a{G}(h:G:=by
 refine ug 0 (RX (.pointer c) false) rfl (fU ⟨by kernel_rfl,λt j=>by have aD:=PV j D.out;have ah:=PV j s.out;go_simp⟩) g ?_
 have a{G}(h:G:=by
 refine cm (WW c false no (some (Pn M 0)) 1 1 false none ak) ?_;have a{G}(h:G:=by
 have u:p.heap[w.heap.size]?=some (Qb #[.pointer c,PD false] 100):=by rw[X.block _ Pv];exact Pj bx
 have aT:p.heap[w.heap.size+1]?=some (Qb #[Rz,PD false] 100):=by rw[X.block _ Pv];exact Pj cL
 have bn:p.cell? (Pn w.heap.size 0)=some (.pointer c):=by rw[cell_of u];rfl
 have bo:p.cell? (Pn w.heap.size 1)=some (PD false):=by rw[cell_of u];rfl
 have bm:=Rn u;have bi:=fR u;refine ty ?_;clear d K aO;refine QX 14 λK d=>?_;go_simp;refine nz ?_;clear d K;refine qT ?_;obtain⟨b,C⟩:∃b,b=(p.setCell (Pn w.heap.size 0) (QI B)).setCell (Pn w.heap.size 1) (PD false):=⟨_,rfl⟩;have a{G}(h:G:=by
 have ae:Hid (b.heap[w.heap.size]?=some (Qb #[QI B,PD false] 100)):=by show _=_;rw[C,gb (gb u _)];rfl
 have a{G}(h:G:=by
 have s:Hid (b.cell? (Pn w.heap.size 1)=some (PD false)):=by show _=_;rw[cell_of ae.out];rfl
 have a{G}(h:G:=by
 refine ug 0 (RX (QI B) false) rfl (fU ⟨by kernel_rfl,λt j=>by have aD:=PV j D.out;have ah:=PV j s.out;go_simp⟩) g ?_
 have a{G}(h:G:=by
 refine tE ?_;refine ug 12 (PD false) rfl (fU ⟨by kernel_rfl,λt j=>by have ah:=PV j s.out;go_simp⟩) g ?_
 refine uh 13 (PD true) g ?_;have a{G}(h:G:=by
 clear d K aT;have a{G}(h:G:=by
 refine Bl ?_;exact DQ):=Pq h;exact Jf):=Pq h;exact ts):=Pq h;exact ny):=Pq h;exact rV):=Pq h;exact Fh):=Pq h;exact B8):=Pq h;exact IW):=Pq h;exact He):=Pq h;exact EP):=Pq h;exact IH):=Pq h;exact Cd):=Pq h;exact sQ):=Pq h;exact pG):=Pq h;exact sW):=Pq h;exact p8
end
def NE (a:Py)(e f l no i j:Nat)(n:Int)(g:PS)(m k d:Bool)(P b:List PS)(c:Option Addr)(o:n=5\/n=37)(h:oP a e f l no n g i j k d P b) :
  PN 80 #[QI f,Pm e,RX (.pointer c) m] a (oY a c no n g (m||k) (!(m||k)&&d) ((P++[RG])++b)):=by
 rcases o with rfl|rfl
 ·
  cases m with
  |true=>exact aI4 a e f l no i j g k d P b c h
  |false=>
   cases k with
   |true=>exact aBQ a e f l no i j g d P b c h
   |false=>exact MC a e f l no i j g d P b c h
 ·
  cases m with
  |true=>exact aBW a e f l no i j g k d P b c h
  |false=>
   cases k with
   |true=>exact axt a e f l no i j g d P b c h
   |false=>exact Og a e f l no i j g d P b c h
def AW (a:Tr)(b:Bool)(h:a.count<=20000):(gp a b).length<=70000:=by
 unfold gp;have d:=Zb ((if b then QF a else [])++(Ue a).map Tr.tx++(Qi a).map Tr.tx);have e:=q2 a;have f:=TI a;have c:=Ye a;have i:=Tn a.fS;have g:=Vl a;have j:(if b then QF a else []).length<=Tr.f5 a.fS:=by
  split
  ·exact c
  ·exact ge _
 simp only[gg,gF] at d;omega
def ajR {d:Ad}(h:d.TB.Nodup):∀c ∈ d.ks,c.TB.Nodup:=by
 intro c f;rw[WS,mZ] at h;have i:∀(b:List Ad),(Ad.RQ b).Nodup->c ∈ b->c.TB.Nodup:=by
  intro b
  induction b with
  |nil=>intro _ a;cases a
  |cons x b g=>
   intro e a;rw[Ad.RQ,ja] at e
   rcases gE.1 a with rfl|a
   ·exact e.1
   ·exact g e.2.1 a
 exact i d.ks h.2 f
def TW.nodup {e:Nat->Prop}{l i:Nat}{a k j:List Nat}{f:List Us}{m:Py}{c:Ad}(h:TW e l i a f m)(g:a=k++(c.TB++j)):c.TB.Nodup:=by
 have d:=h.nd;rw[g,ja] at d;have b:=d.2.1;rw[ja] at b;exact b.1
def LS (I b a:Ad)(aO:List Ad)(E:I.ks=b::a::aO)(ay:I.kd=5\/I.kd=37)(j:Nat->Prop)(t L:Nat)(M r aT:List Nat)(al:List Us)(v:PO)(F:List Sc)(s:Bool)(w:Py)(ae:M=r++(I.TB++aT))(z:TW j t L M al w)(p:Rl j w I)(bO:I.tr.iA=0)(C:YD j w v F)(aX:I.hU<=20000) :
  PN 80 #[QI t,Pm I.p,RX v s] w λc i=>(∃d,c=PY (RX d (s||PU a.tr))/\YD (λO=>j O\/(w.heap.size<=O/\O<i.heap.size)) i d (oc I.tr b.tr a.tr r.length F s))/\PG w i:=by
 obtain⟨o,rfl⟩:=C.ptr;have ah:b ∈ I.ks:=by rw[E];simp
 have q:a ∈ I.ks:=by rw[E];simp
 have hP:=p.parts b ah;have A:=p.parts a q;obtain⟨_,_,aD,aE,_⟩:=p.cells;obtain⟨f,aJ,aH,_,aL,ak,_⟩:=p.wT E;obtain⟨_,_,_,bh,aK,T⟩:=(QT.nt hP.nat).cells;obtain⟨aI,uc,rfl⟩:=T.form;have a8:=Xn I.ks b ah;have bb:=Xn I.ks a q;have be:=qa I;have bf:=Ad.VU b;have a7:=Ad.VU a;have ba:=Vl b.tr;have a6:=Tn b.tr.fS;have aM:=AW a.tr true Pv
 have ap:oP w I.p t L r.length I.kd I.tx b.p a.p (PU a.tr) (Xq a.tr) (b.tr.fS.map Tr.tx) (gp a.tr true):=by
  refine⟨aD,aE,⟨f,_,aJ,by omega,aH,aL,ak⟩,z.word.1,λe d=>z.num ae (Fm.of d),λe d=>?_,⟨aI,uc,by rw[gF];exact aK,λe d=>?_⟩,λe d=>?_,λe d=>?_,by rw[gF];omega,aM⟩
  ·exact TG a.tr a.p e (UN.fQ (QT.nt A.nat) d)
  ·rw[gF];exact D4 b.tr.fS _ e (UZ.fQ T d) Pv
  ·exact Yg a.tr a.p true e (UN.fQ (QT.nt A.nat) d) Pv
  ·exact Pb a e (Rl.fQ (I:=j) (λO _ n=>d.block O n) _ A) (ajR (z.nodup ae) a q) (Vs bO a q) Pv
 refine(NE w I.p t L r.length b.p a.p I.kd I.tx s (PU a.tr) (Xq a.tr) _ _ o ay ap).mono ?_;rintro c i ⟨⟨O,aR,aW,rfl,ax,X,D,R⟩,H⟩;refine⟨⟨QI O,rfl,?_⟩,H⟩;have N:YD (λO=>j O\/(w.heap.size<=O/\O<i.heap.size)) i (.pointer o) F:=YD.fQ (λO _ n=>H.block O n) _ _ (YD.mono (λO d _=>fU d) _ _ C);have af:∀g,Value.pointer o=QI g->g<w.heap.size:=by
  intro g c
  rcases C.form with h|⟨B,h,n⟩
  ·rw[h] at c;cases c
  ·rw[h] at c;cases c;exact n
 obtain⟨aQ,aU,_⟩:=I.Yb;unfold oc;rw[aQ,aU];have a1:=H.size;refine⟨O,aR,aW,rfl,f4 ⟨ax,fR X⟩,X,Zx D,λf k=>f4 ⟨(Qm D f k).2,(Qm D f k).1⟩,?_,?_,?_⟩
 ·show ((List.map Tr.tx b.tr.fS++[RG])++gp a.tr true).length<=100000
  simp only[gg,gF,g4,kv];omega
 ·intro g c
  rcases R with ⟨_,rfl⟩|⟨_,B,U,rfl,_,u,_⟩
  ·have:=af g c;omega
  ·
   cases c;exact u
 ·rcases R with ⟨e,rfl⟩|⟨e,B,U,rfl,u,aY,ad,d⟩
  ·rw[e,fT PK];exact N
  ·rw[e,fY rfl];exact⟨B,U,.pointer o,rfl,f4 ⟨u,fR ad⟩,ad,Zx d,λf k=>f4 ⟨(Qm d f k).2,(Qm d f k).1⟩,by simp,λg c=>by have:=af g c;omega,N⟩
section
variable (w:Py)(e f:Nat)(c:Option Addr)(q n:Bool)
include w e f c q n
def R0 (p:Int)(A:Option Addr)(C B:Nat)(Q:Py->Prop)(H:w.cell? (Pn e 0)=some (Ph p))(L:w.cell? (Pn e 3)=some (.slice A C B))(U:(p==23)=false)(ad:(p==1)=false)(M:(p==6)=false)(R:(p==13)=false)(ax:(p==9)=false)(ak:(p==5)=false)(ap:(p==37)=false)(X:(p==40)=false)(z:∀t,PG w t->PN 58 #[Pm e] t λk r=>k=PY (PD n)/\r=t)(F:∀t,PG w t->PN 79 #[QI f,.slice A C B,RX (.pointer c) (q||n)] t λk r=>k=PY (.tuple #[])/\Q r) :
  PN 39 #[QI f,Pm e,RX (.pointer c) q] w λk r=>k=PY (.tuple #[])/\Q r:=by
 have af:=f1 H;have E:=Y L;have aT:=Y z;have u:=Y F;clear z F
 cases q with
 |true=>
  rw[ij] at u;have a{G}(h:G:=by
  have a{G}(h:G:=by
  have N{G}(h:G:=by
  have a6:Hid (b.cell? (Pn e 3)=some (.slice A C B)):=PV o.out E.out;have g:PG b b.drew:=RV.drew;refine Qd 6 (λt=>PG b t) Qz ?_;have a{G}(h:G:=by
  refine ug 5 (RX (.pointer c) true) rfl (fU ⟨by kernel_rfl,λt j=>by have aD:=PV j D.out;have ah:=PV j s.out;go_simp⟩) g ?_
  exact A5):=Pq h;exact su):=Pq h;exact tc):=Pq h;exact rR):=Pq h;exact Fi
 |false=>
  rw[hL] at u;have a{G}(h:G:=by
  have a{G}(h:G:=by
  have s:Hid (b.cell? (Pn w.heap.size 1)=some (PD n)):=by show _=_;rw[cell_of ae.out];rfl
  have a6:Hid (b.cell? (Pn e 3)=some (.slice A C B)):=PV o.out E.out;have g:PG b b.drew:=RV.drew;refine Qd 6 (λt=>PG b t) Qz ?_;have a{G}(h:G:=by
  refine ug 5 (RX (.pointer c) n) rfl (fU ⟨by kernel_rfl,λt j=>by have aD:=PV j D.out;have ah:=PV j s.out;go_simp⟩) g ?_
  exact A5):=Pq h;exact su):=Pq h;exact rR):=Pq h;exact Fz
def aKy (Q:Py->Prop)(m:w.cell? (Pn e 0)=some (Ph 40))(j:∀t,PG w t->PN 58 #[Pm e] t λk d=>k=PY (PD n)/\d=t)(g:∀t,PG w t->Q t) :
  PN 39 #[QI f,Pm e,RX (.pointer c) q] w λk d=>k=PY (.tuple #[])/\Q d:=by
 have p:=f1 m;have aT:=Y j;have l:=Y g;clear j g
 cases q with
 |true=>
  have a{G}(h:G:=by
  exact Uj (v:=.tuple #[]) ⟨rfl,Pj l _ o.out⟩):=Pq h;exact Fi
 |false=>
  have a{G}(h:G:=by
  exact Uj (v:=.tuple #[]) ⟨rfl,Pj l _ o.out⟩):=Pq h;exact Fz
end
def tl6 (w:Py)(e f r no:Nat)(c:Option Addr)(aW n:Bool)(A:Option Addr)(C B:Nat)(q:List PS)(Q:Py->Prop)(bb:w.cell? (Pn e 0)=some (Ph 6))(be:w.cell? (Pn e 3)=some (.slice A C B))(ap:w.cell? (Pn f 0)=some (.map (some r)))(aH:∀t,PG w t->(Instr.lookup 80 (.map (some r)) (Pm e) false).run prog t=.ok (Ph (no:Int)) t)(a8:∀t,PG w t->PN 78 #[Pm e,PD false] t λk L=>(∃a,k=PY a/\QV t.heap.size L a q)/\PG t L)(aE:∀t,PG w t->PN 58 #[Pm e] t λk L=>k=PY (PD n)/\L=t)(aI:∀t O a,PG w t->w.heap.size<=O->t.heap[O]?=some (Xr no a false (.pointer c))->QV w.heap.size t a q->PN 79 #[QI f,.slice A C B,RX (QI O) (aW||n)] t λk L=>k=PY (.tuple #[])/\Q L) :
  PN 39 #[QI f,Pm e,RX (.pointer c) aW] w λk L=>k=PY (.tuple #[])/\Q L:=by
 have a{G}(h:G:=by
 have bq:=Y a8;clear aE aI aH ap a8
 cases aW with
 |true=>
  rw[ij] at ay;have a{G}(h:G:=by
  have a{G}(h:G:=by
  have a{G}(h:G:=by
  refine Qd 11 (λt=>PG b t) Qz ?_;rw[<-F];clear F;have a{G}(h:G:=by
  have a{G}(h:G:=by
  have a{G}(h:G:=by
  refine cm (WW c true no M q.length R false none z) ?_;have a{G}(h:G:=by
  have a{G}(h:G:=by
  have a{G}(h:G:=by
  refine QX 11 λK d=>?_;exact DZ):=Pq h;exact r3):=Pq h;exact wE):=Pq h;exact qb):=Pq h;exact Hk):=Pq h;exact ny):=Pq h;exact qJ):=Pq h;exact oz):=Pq h;exact pQ):=Pq h;exact qH
 |false=>
  rw[hL] at ay;have a{G}(h:G:=by
  have a{G}(h:G:=by
  have a{G}(h:G:=by
  refine Qd 11 (λt=>PG b t) Qz ?_;have a{G}(h:G:=by
  have a{G}(h:G:=by
  have a{G}(h:G:=by
  refine cm (WW c n no M q.length R false none z) ?_;have a{G}(h:G:=by
  have a{G}(h:G:=by
  refine QX 11 λK d=>?_;exact Kf):=Pq h;exact wi):=Pq h;exact qb):=Pq h;exact Hk):=Pq h;exact ny):=Pq h;exact x9):=Pq h;exact oz):=Pq h;exact pQ):=Pq h;exact rp):=Pq h;exact vd
def O1 (w:Py)(e f r no:Nat)(c:Option Addr)(a8 n:Bool)(A:Option Addr)(C B:Nat)(q:List PS)(Q:Py->Prop)(bb:w.cell? (Pn e 0)=some (Ph 1))(be:w.cell? (Pn e 3)=some (.slice A C B))(ap:w.cell? (Pn f 0)=some (.map (some r)))(aH:∀t,PG w t->(Instr.lookup 80 (.map (some r)) (Pm e) false).run prog t=.ok (Ph (no:Int)) t)(bf:∀t,PG w t->PN 77 #[Pm e] t λk L=>(∃a,k=PY a/\PN 76 #[a] L λk b=>(∃a,k=PY a/\QV L.heap.size b a q)/\PG L b)/\PG t L)(aE:∀t,PG w t->PN 58 #[Pm e] t λk L=>k=PY (PD n)/\L=t)(aI:∀t O a,PG w t->w.heap.size<=O->t.heap[O]?=some (Xr no a false (.pointer c))->QV w.heap.size t a q->PN 79 #[QI f,.slice A C B,RX (QI O) (a8||n)] t λk L=>k=PY (.tuple #[])/\Q L) :
  PN 39 #[QI f,Pm e,RX (.pointer c) a8] w λk L=>k=PY (.tuple #[])/\Q L:=by
 have a{G}(h:G:=by
 have bD:=Y bf;clear aE aI aH ap bf
 cases a8 with
 |true=>
  rw[ij] at ay;have a{G}(h:G:=by
  have a{G}(h:G:=by
  have a{G}(h:G:=by
  refine Qd 12 (λt=>PG b t) Qz ?_;rw[<-F];clear F;have a{G}(h:G:=by
  have a{G}(h:G:=by
  have a{G}(h:G:=by
  refine cm (WW c true no M q.length R false none z) ?_;have a{G}(h:G:=by
  have a{G}(h:G:=by
  have a{G}(h:G:=by
  refine QX 12 λK d=>?_;exact DZ):=Pq h;exact r3):=Pq h;exact wE):=Pq h;exact qb):=Pq h;exact Ae):=Pq h;exact ny):=Pq h;exact qJ):=Pq h;exact oz):=Pq h;exact pQ):=Pq h;exact qH
 |false=>
  rw[hL] at ay;have a{G}(h:G:=by
  have a{G}(h:G:=by
  have a{G}(h:G:=by
  refine Qd 12 (λt=>PG b t) Qz ?_;have a{G}(h:G:=by
  have a{G}(h:G:=by
  have a{G}(h:G:=by
  refine cm (WW c n no M q.length R false none z) ?_;have a{G}(h:G:=by
  have a{G}(h:G:=by
  refine QX 12 λK d=>?_;exact Kf):=Pq h;exact wi):=Pq h;exact qb):=Pq h;exact Ae):=Pq h;exact ny):=Pq h;exact x9):=Pq h;exact oz):=Pq h;exact pQ):=Pq h;exact rp):=Pq h;exact vd
def Tu (w:Py)(e f r no:Nat)(c:Option Addr)(aW n:Bool)(A:Option Addr)(C B:Nat)(q:PS)(Q:Py->Prop)(bb:w.cell? (Pn e 0)=some (Ph 13))(be:w.cell? (Pn e 3)=some (.slice A C B))(ap:w.cell? (Pn f 0)=some (.map (some r)))(aH:∀t,PG w t->(Instr.lookup 80 (.map (some r)) (Pm e) false).run prog t=.ok (Ph (no:Int)) t)(bf:w.cell? (Pn e 1)=some (PI q))(aE:∀t,PG w t->PN 58 #[Pm e] t λk R=>k=PY (PD n)/\R=t)(aI:∀t O a,PG w t->w.heap.size<=O->t.heap[O]?=some (Xr no a false (.pointer c))->QV w.heap.size t a [q]->PN 79 #[QI f,.slice A C B,RX (QI O) (aW||n)] t λk R=>k=PY (.tuple #[])/\Q R) :
  PN 39 #[QI f,Pm e,RX (.pointer c) aW] w λk R=>k=PY (.tuple #[])/\Q R:=by
 have a{G}(h:G:=by
 have bh:=Y bf;clear aE aI aH ap bf
 cases aW with
 |true=>
  rw[ij] at ay;have a{G}(h:G:=by
  have a{G}(h:G:=by
  have br:Hid (b.cell? (Pn e 1)=some (PI q)):=PV o.out bh.out;have a{G}(h:G:=by
  refine Qd 14 (λt=>PG b t) Qz ?_;rw[<-F];clear F;have a{G}(h:G:=by
  have a{G}(h:G:=by
  have a{G}(h:G:=by
  refine cm (WW c true no L [q].length 1 false none z) ?_;have a{G}(h:G:=by
  have a{G}(h:G:=by
  have a{G}(h:G:=by
  refine QX 14 λK d=>?_;have a{G}(h:G:=by
  have aY:Hid (wz.heap[E]?=some (Xr no (.slice L [q].length 1) false (.pointer c))):=(ad _ Pv).trans aJ;have a1:Hid (QV w.heap.size wz (.slice L [q].length 1) [q]):=TS (Qw (a:=λO=>b.heap.size<=O) (λO M _=>ad O (by have ah:b.heap.size<=O:=M;omega)) (λO M=>(Qm ak O M).2) ak) Pv
  exact IY):=Pq h;go_simp;exact AJ):=Pq h;exact r3):=Pq h;exact wE):=Pq h;exact qb):=Pq h;exact BZ):=Pq h;exact ny):=Pq h;exact qJ):=Pq h;exact oz):=Pq h;exact pQ):=Pq h;exact qH
 |false=>
  rw[hL] at ay;have a{G}(h:G:=by
  have a{G}(h:G:=by
  have br:Hid (b.cell? (Pn e 1)=some (PI q)):=PV o.out bh.out;have a{G}(h:G:=by
  refine Qd 14 (λt=>PG b t) Qz ?_;have a{G}(h:G:=by
  have a{G}(h:G:=by
  have a{G}(h:G:=by
  refine cm (WW c n no L [q].length 1 false none z) ?_;have a{G}(h:G:=by
  have a{G}(h:G:=by
  refine QX 14 λK d=>?_;have a{G}(h:G:=by
  have aY:Hid (wz.heap[E]?=some (Xr no (.slice L [q].length 1) false (.pointer c))):=(ad _ Pv).trans aJ;have a1:Hid (QV w.heap.size wz (.slice L [q].length 1) [q]):=TS (Qw (a:=λO=>b.heap.size<=O) (λO M _=>ad O (by have ah:b.heap.size<=O:=M;omega)) (λO M=>(Qm ak O M).2) ak) Pv
  exact A0):=Pq h;go_simp;exact zN):=Pq h;exact wi):=Pq h;exact qb):=Pq h;exact BZ):=Pq h;exact ny):=Pq h;exact x9):=Pq h;exact oz):=Pq h;exact pQ):=Pq h;exact rp):=Pq h;exact vd
def R5 (w:Py)(e f ap H:Nat)(c:Option Addr)(E n:Bool)(p z L:Nat)(X:Nat->Prop)(aH Q:Py->Prop)(bq:w.cell? (Pn e 0)=some (Ph 9))(aJ:w.cell? (Pn e 3)=some (.slice (some (Pn p 0)) z L))(ad:w.cell? (Pn p 0)=some (Pm ap))(aE:w.cell? (Pn p 1)=some (Pm H))(bo:2<=z)(aR:X e)(a6:X p)(aI:∀t,PG w t->PN 58 #[Pm e] t λk u=>k=PY (PD n)/\u=t)(aW:∀t,PG w t->PN 39 #[QI f,Pm ap,RX (.pointer c) (E||n)] t λk u=>k=PY (.tuple #[])/\Fm (λO=>X O\/(w.heap.size<=O/\O<t.heap.size)) t u/\aH u)(aO:∀t a O,aH t->PG t a->t.heap.size<=O->a.heap[O]?=some (Xr 0 RF true (.pointer c))->PN 39 #[QI f,Pm H,RX (QI O) (E||n)] a λk u=>k=PY (.tuple #[])/\Q u) :
  PN 39 #[QI f,Pm e,RX (.pointer c) E] w λk u=>k=PY (.tuple #[])/\Q u:=by
 have bH:=f1 bq;have bI:=f1 ad;have bK:¬ z=0:=Pv;have bJ:¬ (z:Int)<=1:=Pv;have aK:=Y aJ;have a1:=Y ad;have aY:=Y aE;have bE:=Y aR;have bz:=Y a6;have aT:=Y aI;have ax:=Y aW;have af:=Y aO;clear aI aO aW aJ ad aE bo aR a6
 cases E with
 |true=>
  rw[ij] at af ax;have a{G}(h:G:=by
  have ay:=Y (PV o.out aK.out);have bi:=Y (PV o.out a1.out);have bf:=Y (PV o.out aY.out);have a{G}(h:G:=by
  have a{G}(h:G:=by
  refine uc 7 (RX (.pointer c) true) rfl (fU ⟨by kernel_rfl,λt j=>by have aD:=PV j D.out;have ah:=PV j s.out;go_simp⟩) g ?_
  have a{G}(h:G:=by
  have M:Hid (r.cell? (Pn w.heap.size 1)=some (PD true)):=(C.cell (f4 ⟨Qq,A⟩) A).trans (PV g s.out);have a{G}(h:G:=by
  refine uc 7 (RX (.pointer c) true) rfl (fU ⟨by kernel_rfl,λt j=>by have aD:=PV j bm.out;have ah:=PV j M.out;go_simp⟩) q ?_
  refine uh 8 (.agg #[Ph 0,RF,PD true,Rz]) q ?_;refine QX 9 λK d=>?_;go_simp;refine cm (WW c true 0 none 0 0 true none B) ?_;exact Ew):=Pq h;exact FN):=Pq h;exact Fj):=Pq h;exact JQ):=Pq h;exact oz):=Pq h;exact qH
 |false=>
  rw[hL] at af ax;have a{G}(h:G:=by
  have ay:=Y (PV o.out aK.out);have bi:=Y (PV o.out a1.out);have bf:=Y (PV o.out aY.out);have a{G}(h:G:=by
  have a{G}(h:G:=by
  refine uc 7 (RX (.pointer c) n) rfl (fU ⟨by kernel_rfl,λt j=>by have aD:=PV j D.out;have ah:=PV j s.out;go_simp⟩) g ?_
  have a{G}(h:G:=by
  have M:Hid (r.cell? (Pn w.heap.size 1)=some (PD n)):=(C.cell (f4 ⟨Qq,A⟩) A).trans (PV g s.out);have a{G}(h:G:=by
  refine uc 7 (RX (.pointer c) n) rfl (fU ⟨by kernel_rfl,λt j=>by have aD:=PV j bm.out;have ah:=PV j M.out;go_simp⟩) q ?_
  refine uh 8 (.agg #[Ph 0,RF,PD true,Rz]) q ?_;refine QX 9 λK d=>?_;go_simp;refine cm (WW c n 0 none 0 0 true none B) ?_;exact Ew):=Pq h;exact FN):=Pq h;exact Fj):=Pq h;exact JQ):=Pq h;exact oz):=Pq h;exact rp
def PF (w:Py)(g r p:Nat)(i:Option Addr)(aH s s2:Bool)(t u ae:Nat)(ap:Int)(H:Option Addr)(M L:Nat)(R:Py->Py->PO->Prop)(Q:Py->Prop)(a8:w.cell? (Pn g 0)=some (Ph ap))(aK:w.cell? (Pn g 3)=some (.slice (some (Pn t 0)) u ae))(N:w.cell? (Pn t 1)=some (Pm p))(ak:w.cell? (Pn p 3)=some (.slice H M L))(a6:2<=u)(a7:ap=5\/ap=37)(aJ:∀b,PG w b->PN 58 #[Pm g] b λe o=>e=PY (PD s)/\o=b)(aW:∀b,PG w b->PN 80 #[QI r,Pm g,RX (.pointer i) (aH||s)] b λe o=>(∃A,e=PY (RX A s2)/\R b o A)/\PG b o)(aY:∀b a A,PG w b->R b a A->PG b a->PN 79 #[QI r,.slice H M L,RX A s2] a λe o=>e=PY (.tuple #[])/\Q o) :
  PN 39 #[QI r,Pm g,RX (.pointer i) aH] w λe o=>e=PY (.tuple #[])/\Q o:=by
 have bf:=f1 a8;have bi:=f1 N;have bh:=f1 ak;have bn:¬ u=0:=Pv;have bm:¬ (u:Int)<=1:=Pv;have aR:=Y aK;have a1:=Y N;have aO:=Y ak;have bb:=Y aJ;have F:=Y aW;have aX:=Y aY;clear aJ aY aW aK N ak a6
 rcases a7 with rfl|rfl
 all_goals
  cases aH with
  |true=>
   rw[ij] at F;have aT:PG w (w.alloc (.cells #[.pointer i,PD true] 100)):=QK;obtain⟨c,k⟩:∃c,c=w.alloc (.cells #[.pointer i,PD true] 100):=⟨_,rfl⟩;have f:Hid (PG w c):=by show Below _ _ _;rw[k];exact QK
   have B:Hid (c.heap[w.heap.size]?=some (Qb #[.pointer i,PD true] 100)):=by show _=_;rw[k];exact Pz _ _
   have X:=Y k;clear k;go_enter func39,ntmps39;go_wp2_with fail;rw[<-X.out];have al:Hid (c.cell? (Pn w.heap.size 0)=some (.pointer i)):=by show _=_;rw[cell_of B.out];rfl
   have ad:Hid (c.cell? (Pn w.heap.size 1)=some (PD true)):=by show _=_;rw[cell_of B.out];rfl
   have af:=Y (PV f.out aR.out);have aE:=Y (PV f.out a1.out);have ax:=Y (PV f.out aO.out);obtain⟨n,q⟩:∃n,n=c.drew:=⟨_,rfl⟩;have a:PG c n:=by rw[q];exact RV.drew
   refine Qd 14 (λb=>PG c b) Qz ?_;rw[<-q];clear q;refine uh 0 (QI r) a ?_;refine uh 1 (Pm g) a ?_;refine uh 2 (Pm g) a ?_;refine uh 3 (PZ g 3) a ?_;refine uc 4 (.slice (some (Pn t 0)) u ae) rfl (fU ⟨by kernel_rfl,λb d=>by have aD:=PV d af.out;go_simp⟩) a ?_
   refine uh 5 (PZ t 1) a ?_;refine uc 6 (Pm p) rfl (fU ⟨by kernel_rfl,λb d=>by have aD:=PV d aE.out;go_simp⟩) a ?_
   refine uh 7 (Pm p) a ?_;refine uh 8 (PZ p 3) a ?_;refine uc 9 (.slice H M L) rfl (fU ⟨by kernel_rfl,λb d=>by have aD:=PV d ax.out;go_simp⟩) a ?_
   refine uh 10 (QI r) a ?_;refine uh 11 (Pm g) a ?_;refine uc 12 (RX (.pointer i) true) rfl (fU ⟨by kernel_rfl,λb d=>by have aD:=PV d al.out;have ah:=PV d ad.out;go_simp⟩) a ?_
   refine QX 13 λK j=>?_;go_simp;refine cm (Pj F _ (f.out.trans (a.mono f.out.size))) ?_;rintro e z ⟨⟨U,rfl,D⟩,C⟩;have ay:PG c z:=a.trans (C.mono a.size);refine j.out _ _ (λ_=>ay) ?_;clear j K;refine QX 14 λK j=>?_;go_simp;refine cm (Pj aX n z U (f.out.trans (a.mono f.out.size)) D C) ?_;rintro e be ⟨rfl,E⟩;refine j.out _ _ (λe=>by cases e) ?_;clear j K;refine oB Qz ?_ _;have aI:=Y E;clear E D;go_simp;go_wp2_with fail;exact Uj (v:=.tuple #[]) ⟨rfl,aI.out⟩
  |false=>
   rw[hL] at F;have aT:PG w (w.alloc (.cells #[.pointer i,PD false] 100)):=QK;obtain⟨c,k⟩:∃c,c=w.alloc (.cells #[.pointer i,PD s] 100):=⟨_,rfl⟩;have f:Hid (PG w c):=by show Below _ _ _;rw[k];exact QK
   have B:Hid (c.heap[w.heap.size]?=some (Qb #[.pointer i,PD s] 100)):=by show _=_;rw[k];exact Pz _ _
   have X:=Y k;clear k;go_enter func39,ntmps39;go_wp2_with fail;refine cm (Pj bb _ aT) ?_;rintro e ba ⟨rfl,aU⟩;rw[aU];clear aU ba;go_wp2_with fail;rw[<-X.out];have al:Hid (c.cell? (Pn w.heap.size 0)=some (.pointer i)):=by show _=_;rw[cell_of B.out];rfl
   have ad:Hid (c.cell? (Pn w.heap.size 1)=some (PD s)):=by show _=_;rw[cell_of B.out];rfl
   have af:=Y (PV f.out aR.out);have aE:=Y (PV f.out a1.out);have ax:=Y (PV f.out aO.out);obtain⟨n,q⟩:∃n,n=c.drew:=⟨_,rfl⟩;have a:PG c n:=by rw[q];exact RV.drew
   refine Qd 14 (λb=>PG c b) Qz ?_;rw[<-q];clear q;refine uh 0 (QI r) a ?_;refine uh 1 (Pm g) a ?_;refine uh 2 (Pm g) a ?_;refine uh 3 (PZ g 3) a ?_;refine uc 4 (.slice (some (Pn t 0)) u ae) rfl (fU ⟨by kernel_rfl,λb d=>by have aD:=PV d af.out;go_simp⟩) a ?_
   refine uh 5 (PZ t 1) a ?_;refine uc 6 (Pm p) rfl (fU ⟨by kernel_rfl,λb d=>by have aD:=PV d aE.out;go_simp⟩) a ?_
   refine uh 7 (Pm p) a ?_;refine uh 8 (PZ p 3) a ?_;refine uc 9 (.slice H M L) rfl (fU ⟨by kernel_rfl,λb d=>by have aD:=PV d ax.out;go_simp⟩) a ?_
   refine uh 10 (QI r) a ?_;refine uh 11 (Pm g) a ?_;refine uc 12 (RX (.pointer i) s) rfl (fU ⟨by kernel_rfl,λb d=>by have aD:=PV d al.out;have ah:=PV d ad.out;go_simp⟩) a ?_
   refine QX 13 λK j=>?_;go_simp;refine cm (Pj F _ (f.out.trans (a.mono f.out.size))) ?_;rintro e z ⟨⟨U,rfl,D⟩,C⟩;have ay:PG c z:=a.trans (C.mono a.size);refine j.out _ _ (λ_=>ay) ?_;clear j K;refine QX 14 λK j=>?_;go_simp;refine cm (Pj aX n z U (f.out.trans (a.mono f.out.size)) D C) ?_;rintro e be ⟨rfl,E⟩;refine j.out _ _ (λe=>by cases e) ?_;clear j K;refine oB Qz ?_ _;have aI:=Y E;clear E D;go_simp;go_wp2_with fail;exact Uj (v:=.tuple #[]) ⟨rfl,aI.out⟩
def aAD:(prog.info? 52).map (λa=>(a.zero,a.size,a.bytes))=some (some (.agg #[Ph 0,Ph 0,PD false]),3,24):=by kernel_rfl
def TW.push {v:Nat->Prop}{c m:Nat}{C:List Nat}{i:List Us}{f g:Py}{s:PO}{d k r:Nat}{u:Us}(h:TW v c m C i f)(P:f.heap[c]?=some (Qb #[.map (some m),s] 96))(R:r=i.length+1)(X:g.ownsRow 0 52 3 (.slice (some (Pn d 0)) r k) r (Tc (i++[u])))(n:f.grownBy g s.ownBlock)(l:s.ownBlock=some d\/f.heap.size<=d) :
  TW v c m C (i++[u]) (g.setCell (Pn c 1) (.slice (some (Pn d 0)) r k))/\Fm (λa=>a<f.heap.size/\a≠c/\s.ownBlock≠some a) f (g.setCell (Pn c 1) (.slice (some (Pn d 0)) r k)):=by
 obtain⟨⟨p,q,af,z,D⟩,F,A,o,B,T⟩:=h;have ae:p=s:=by rw[P] at q;simpa using q.symm
 subst ae;subst R;have I:∀e,e≠c->(g.setCell (Pn c 1) (.slice (some (Pn d 0)) (i.length+1) k)).heap[e]?=g.heap[e]?:=λe N=>V3 N _;have E:∀e,e<f.heap.size->e≠c->p.ownBlock≠some e->(g.setCell (Pn c 1) (.slice (some (Pn d 0)) (i.length+1) k)).heap[e]?=f.heap[e]?:=λe O a S=>(I e a).trans (n.block e O (λj=>S j.symm));have ad:g.heap[c]?=some (Qb #[.map (some m),p] 96):=(n.block c (fR q) (λj=>D j.symm)).trans q
 have H:f.heap.size<=(g.setCell (Pn c 1) (.slice (some (Pn d 0)) (i.length+1) k)).heap.size:=by simpa using n.size
 have L:d≠c:=by
  rcases l with l|l
  ·exact λj=>D (by rw[l,j])
  ·have:=fR q;omega
 have M:Fm (λa=>a<f.heap.size/\a≠c/\p.ownBlock≠some a) f (g.setCell (Pn c 1) (.slice (some (Pn d 0)) (i.length+1) k)):=⟨n.os,n.tape,n.output,H,λa b _=>E a b.1 b.2.1 b.2.2⟩;have U:∀a,v a->a<f.heap.size/\a≠c/\p.ownBlock≠some a:=λa b=>⟨(o a b).1,(o a b).2,z a b⟩
 refine⟨⟨⟨.slice (some (Pn d 0)) (i.length+1) k,by rw[gb ad];rfl,?_,λa b j=>?_,λj=>?_⟩,?_,A,λa b=>⟨gH (o a b).1 H,(o a b).2⟩,λt w=>⟨(B t w).1,Cl.fm M (U t (B t w).1) (B t w).2⟩,T⟩,M⟩
 ·rw[gg];exact Qw (a:=λa=>a=d) (λa b _=>I a (by rw[b];exact L)) (λa b=>by simpa[Value.ownBlock] using b.symm) X
 ·have t:d=a:=by simpa[Value.ownBlock] using j
  subst t
  rcases l with l|l
  ·exact z d b l
  ·have:=(o d b).1;omega
 ·exact L (by simpa[Value.ownBlock] using j)
 ·rw[E m (fR F) (o m A).2 (z m A)];exact F
def Z3 (f:Py)(b c:Int)(d:Bool)(j:TypeId)(H:Nat)(h:f.heap.size=H):∀e i,(jz (b,c,d))[e]?=some i->(f.alloc (.cells #[Ph b,Ph c,PD d] j)).cell? (((Pn H 0):Addr).add e)=some i:=by
 intro e i a;subst h;have k:∀g,(f.alloc (.cells #[Ph b,Ph c,PD d] j)).cell? (((Pn f.heap.size 0):Addr).add g)=#[Value.int .i64 b,Ph c,PD d][g]?:=λg=>by
  rw[Addr.add_mid,h3,cell_of (Pz _ _)]
 rw[k]
 match e,a with
 |0,a=>simpa[jz] using a
 |1,a=>simpa[jz] using a
 |2,a=>simpa[jz] using a
 |_+3,a=>simp[jz] at a
def azD (b:Us):∀x ∈ jz b,x.oneCell'=true:=by
 intro x a;simp only[jz,gE,jf,js] at a
 rcases a with rfl|rfl|rfl <;> rfl
def P4 (w:Py)(e f F no:Nat)(c:Option Addr)(a1 n:Bool)(ak:Option Addr)(ax ap:Nat)(aI:PS)(A:Int)(B:Bool)(u:Nat->Prop)(aK:List Nat)(z:List Us)(Q:Py->Prop)(bY:w.cell? (Pn e 0)=some (Ph 23))(bq:w.cell? (Pn e 1)=some (PI aI))(br:w.cell? (Pn e 3)=some (.slice ak ax ap))(aY:u e)(da:z.length<=20000)(bn:TW u f F aK z w)(bv:∀t,Fm u w t->(Instr.lookup 80 (.map (some F)) (Pm e) false).run prog t=.ok (Ph (no:Int)) t)(bo:∀t,PG w t->PN 58 #[Pm e] t λk H=>k=PY (PD n)/\H=t)(bm:∀t,PG w t->PN 74 #[.pointer c,PI aI] t λk H=>k=PY (.tuple #[Ph A,PD B])/\H=t)(bx:∀t,TW u f F aK (z++[((no:Int),A,B)]) t->Fm u w t->PN 79 #[QI f,.slice ak ax ap,RX (.pointer c) (a1||n)] t λk H=>k=PY (.tuple #[])/\Q H) :
  PN 39 #[QI f,Pm e,RX (.pointer c) a1] w λk H=>k=PY (.tuple #[])/\Q H:=by
 obtain⟨ck,cg,ci,b8,ce⟩:=g2 aAD;have c8:=f1 bY;have db:=(bn.ne e aY).2;have cE:=Y br;have cG:=Y bq;have cB:=Y aY;have bU:=Y bn;have cq:=Y bv;have aT:=Y bo;have cC:=Y bm;have a7:=Y bx;clear bo bx bm br bq aY bv
 cases a1 with
 |true=>
  rw[ij] at a7;have a{G}(h:G:=by
  have a{G}(h:G:=by
  have a{G}(h:G:=by
  have s:Hid (E.cell? (Pn w.heap.size 1)=some (PD true)):=(ay.cell (f4 aO.out) aQ).trans (Pj bQ);have a{G}(h:G:=by
  refine ug 5 (RX (.pointer c) true) rfl (fU ⟨by kernel_rfl,λt j=>by have aD:=PV j D.out;have ah:=PV j s.out;go_simp⟩) q ?_
  exact Di):=Pq h;exact G8):=Pq h;exact FV):=Pq h;exact zy):=Pq h;exact qH
 |false=>
  rw[hL] at a7;have a{G}(h:G:=by
  have a{G}(h:G:=by
  have a{G}(h:G:=by
  have s:Hid (E.cell? (Pn w.heap.size 1)=some (PD n)):=(ay.cell (f4 aO.out) aQ).trans (Pj bQ);have a{G}(h:G:=by
  refine ug 5 (RX (.pointer c) n) rfl (fU ⟨by kernel_rfl,λt j=>by have aD:=PV j D.out;have ah:=PV j s.out;go_simp⟩) q ?_
  exact Di):=Pq h;exact G8):=Pq h;exact FV):=Pq h;exact zy):=Pq h;exact rp
