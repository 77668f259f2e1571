import Derived.Laws.OwnMore
import Derived.Shelf.Strings.Builder1
import Derived.Shelf.Strings.Builder2
import Derived.Shelf.Strings.OnBuilder
import Derived.Shelf.Small.Strs
import Derived.Shelf.Strconv.Itoa0
import Derived.Shelf.Strconv.Itoa1
import Derived.Shelf.LaysM
import Derived.Shelf.Strconv.Itoa2
import Derived.Shelf.Strconv.Itoa3
import Derived.Shelf.Strings.Search1
import Derived.Test.YticfnaiehdpbmaaGreatDoorProg
import Derived.Test.YticfnaiehdpbmaaGreatDoorOn4
import Derived.LaidEql
import Derived.Stop.Asserts
import Derived.RowKitTokens
set_option maxRecDepth 100000
set_option maxHeartbeats 8000000
set_option linter.all false
namespace Go.Proofs.YticfnaiehdpbmaaGreatDoor
open Go.RowKit Go.Proofs.Tryz
namespace Hp
def Qs {w:Ov}{base:Nat}{e:TypeId}{size:Nat}{v:OG}{n:Nat}{xs:List OG}(h:w.ownsRow base e size v n xs):v=QD/\n=0\/∃ g cap,v=.slice (some (Ot g 0)) n cap:=by
 rcases h.2 with h|⟨g,cap,_,h,_⟩
 ·exact .inl h
 ·exact .inr ⟨g,cap,h⟩
def cell_below {w wr:Ov}{B:Nat}(h:Below B w wr){a:Addr}(D:a.block<B):wr.cell? a=w.cell? a:=World.cell?_of_block (h.block a.block D)
def grown_of {w w':Ov}(D:OD w w'):w.grownBy w' none:=⟨D.os,D.tape,D.output,D.size,fun k E _=>D.block k E⟩
def Pe {w w':Ov}{base:Nat}{e:TypeId}{size:Nat}{v:OG}{n:Nat}{xs:List OG}(h:w.ownsRow base e size v n xs)(D:OD w w'):w'.ownsRow base e size v n xs:=
 h.kept (grown_of D) (by cases v.ownBlock <;> simp)
def Qc {w:Ov}{base:Nat}{e:TypeId}{size:Nat}{v:OG}{n:Nat}{xs:List OG}(h:w.ownsRow base e size v n xs){k:Nat}(E:v.ownBlock=some k):∃ cj,w.heap[k]? = some (O1 cj e):=by
 rcases h.2 with ⟨rfl,_⟩|⟨g,cap,cj,rfl,_,hg,_⟩
 ·simp[Value.ownBlock] at E
 ·simp[Value.ownBlock] at E;subst E;exact⟨cj,hg⟩
def QK {w:Ov}{j k:Nat}{c en:Array OG}{e g0:TypeId}{bD jl:Nat × Nat}(h:w.heap[j]? = some (.cells c e bD))(fq:w.heap[k]? = some (.cells en g0 jl))(cl:e≠g0):j≠k:=by
 rintro rfl;rw[h] at fq;simp at fq;exact cl fq.2.1
structure Py (T:List TypeId)(B:Nat)(w w':Ov):Prop where
 below:Below B w w'
 rest:∀ (b:Nat) c (e:TypeId),w.heap[b]? = some (O1 c e)->e ∉ T->w'.heap[b]? = some (O1 c e)
def Py.of {T:List TypeId}{B:Nat}{w w':Ov}(D:OD w w')(a8:B<=w.heap.size):Py T B w w':=
 ⟨D.mono a8,fun b _ _ h _=>(D.block b (lt_of_block h)).trans h⟩
def Py.trans {T:List TypeId}{B:Nat}{a b c:Ov}(h:Py T B a b)(k:Py T B b c):Py T B a c:=⟨h.below.trans k.below,fun x y e bD q=>k.rest x y e (h.rest x y e bD q) q⟩
def Py.mono {T C0:List TypeId}{B B':Nat}{w w':Ov}(h:Py T B w w')(dY:∀ e ∈ T,e ∈ C0)(a8:B'<=B):Py C0 B' w w':=⟨h.below.mono a8,fun b c e D aq=>h.rest b c e D fun q=>aq (dY e q)⟩
section
variable {T:List TypeId}
include T
def Py.grown {B:Nat}{w w':Ov}{row:Option Nat}(hg:w.grownBy w' row)(a8:B<=w.heap.size)(h:∀ k,row=some k->B<=k/\∃ c e,w.heap[k]? = some (O1 c e)/\e ∈ T):Py T B w w':=by
 refine⟨⟨hg.os,hg.tape,hg.output,hg.size,fun k E=>?_⟩,fun b _ g0 D aq=>?_⟩
 ·exact hg.block k (Nat.lt_of_lt_of_le E a8) (fun e=>by have:=(h k e.symm).1;omega)
 ·refine(hg.block b (lt_of_block D) (fun e=>?_)).trans D;obtain⟨_,en,LL,h1,U⟩:=h b e.symm;exact QK h1 D (by rintro rfl;exact aq U) rfl
def Py.setCell {B:Nat}{w w':Ov}(h:Py T B w w'){g j:Nat}{c:Array OG}{e:TypeId}(hg:w'.heap[g]? = some (O1 c e))(aq:e ∈ T)(a8:B<=g)(u:OG):Py T B w (w'.setCell (Ot g j) u):=by
 refine⟨h.below.setCell (p:=(Ot g j)) a8 _,fun b d g0 D t6=>?_⟩;have h1:=h.rest b d g0 D t6;rw[heap_setCell_other _ _ _ _ (by exact(QK hg h1 (by rintro rfl;exact t6 aq)).symm)]
 exact h1
def OW {B B':Nat}{w w':Ov}{e:TypeId}{size:Nat}{v:OG}{n:Nat}{xs:List OG}(h:w.ownsRow B e size v n xs)(f:Py T B' w w')(aq:e ∉ T):w'.ownsRow B e size v n xs:=by
 refine⟨h.1,?_⟩
 rcases h.2 with az|⟨g,cap,cj,av,D,hg,rest⟩
 ·exact Or.inl az
 ·exact Or.inr ⟨g,cap,cj,av,D,f.rest g cj e hg aq,rest⟩
end
structure El where
 hd:List OG
 n:Nat
 xs:List OG
def flat:List El->List OG->List OG
 | e::es,v::vs=>e.hd++v::flat es vs
 | _,_=>[]
def flat_get {so:Nat}:∀ (es:List El) (vs:List OG) (i j:Nat) (e:El) (v:OG),(∀ e ∈ es,e.hd.length+1=so)->es[i]? = some e->vs[i]? = some v->j<so->(flat es vs)[i * so+j]? =(e.hd++[v])[j]?
 | [],_,i,j,e,v,_,h,_,_=>by simp at h
 | _::_,[],i,j,e,v,_,_,h,_=>by simp at h
 | a::es,b::vs,0,j,e,v,hl,h,fq,aN=>by
  simp at h fq;subst h fq;have:=hl a O8
  show (a.hd++b::flat es vs)[0 * so+j]? = _
  rw[Nat.zero_mul,Nat.zero_add,show a.hd++b::flat es vs=(a.hd++[b])++flat es vs by simp,List.getElem?_append_left Rh]
 | a::es,b::vs,i+1,j,e,v,hl,h,fq,aN=>by
  have aa:=flat_get es vs i j e v (fun x ae=>hl x (by simp[ae])) (by simpa using h) (by simpa using fq) aN;have:=hl a O8
  show (a.hd++b::flat es vs)[(i+1) * so+j]? = _
  rw[show a.hd++b::flat es vs=(a.hd++[b])++flat es vs by simp,show (i+1) * so+j=(a.hd++[b]).length+(i * so+j) by simp[Nat.add_mul];omega,List.getElem?_append_right Ou,Nat.add_sub_cancel_left]
  exact aa
def agx:∀ (es vI:List El) (vs xc:List OG),vs.length=es.length->flat (es++vI) (vs++xc)=flat es vs++flat vI xc
 | [],vI,[],xc,_=>by simp[flat]
 | [],_,_::_,_,h=>by simp at h
 | _::_,_,[],_,h=>by simp at h
 | a::es,vI,b::vs,xc,h=>by
  have:=agx es vI vs xc (by simpa using h);simp[flat,this]
def abV {so:Nat}:∀ (es:List El) (vs:List OG) (i:Nat) (e g0:El) (v:OG),(∀ e ∈ es,e.hd.length+1=so)->vs.length=es.length->es[i]? = some e->g0.hd=e.hd->flat (es.set i g0) (vs.set i v)=(flat es vs).set (i * so+(so - 1)) v
 | [],_,i,e,g0,v,_,_,h,_=>by simp at h
 | _::_,[],i,e,g0,v,_,h,_,_=>by simp at h
 | a::es,b::vs,0,e,g0,v,hl,_,h,aR=>by
  simp at h;subst h;have:=hl a O8
  show g0.hd++v::flat es vs=(a.hd++b::flat es vs).set (0 * so+(so - 1)) v
  rw[aR,Nat.zero_mul,Nat.zero_add,List.set_append_right _ _ Ou,show so - 1 - a.hd.length=0 by omega];rfl
 | a::es,b::vs,i+1,e,g0,v,hl,hlen,h,aR=>by
  have aa:=abV es vs i e g0 v (fun x ae=>hl x (by simp[ae])) (by simpa using hlen) (by simpa using h) aR;have:=hl a O8
  show a.hd++b::flat (es.set i g0) (vs.set i v)=(a.hd++b::flat es vs).set ((i+1) * so+(so - 1)) v
  rw[aa,show (i+1) * so+(so - 1)=a.hd.length+((i * so+(so - 1))+1) by simp[Nat.add_mul];omega,List.set_append_right _ _ Ou,Nat.add_sub_cancel_left]
  rfl
structure Tb (B:Nat)(jt:TypeId)(so:Nat)(h3:TypeId)(kA:Nat)(w:Ov)(tv:OG)(es:List El)(vs:List OG):Prop where
 row:w.ownsRow B jt so tv es.length (flat es vs)
 len:vs.length=es.length
 hl:∀ e ∈ es,e.hd.length+1=so
 own:∀ (i:Nat) e v,es[i]? = some e->vs[i]? = some v->w.ownsRow B h3 kA v e.n e.xs
 apart:∀ (i j:Nat) a b g,vs[i]? = some a->vs[j]? = some b->a.ownBlock=some g->b.ownBlock=some g->i=j
 ne:jt≠h3
section
variable {B:Nat} {jt:TypeId} {so:Nat} {h3:TypeId} {kA:Nat} {w w':Ov} {tv:OG} {es:List El} {vs:List OG}
def Tb.nil (cl:jt≠h3):Tb B jt so h3 kA w QD [] []:=
 ⟨World.ownsRow_nil _ _ _ _,rfl,fun e h=>by simp at h,fun i s v h=>by simp at h,fun i j a b g h=>by simp at h,cl⟩
def Tb.later (h:Tb B jt so h3 kA w tv es vs)(D:OD w w'):Tb B jt so h3 kA w' tv es vs:=
 ⟨Pe h.row D,h.len,h.hl,fun i s v a b=>Pe (h.own i s v a b) D,h.apart,h.ne⟩
def Tb.keep {T:List TypeId}{B':Nat}(h:Tb B jt so h3 kA w tv es vs)(f:Py T B' w w')(h1:jt ∉ T)(U:h3 ∉ T):Tb B jt so h3 kA w' tv es vs:=
 ⟨OW h.row f h1,h.len,h.hl,fun i s v a b=>OW (h.own i s v a b) f U,h.apart,h.ne⟩
section
variable (h:Tb B jt so h3 kA w tv es vs) {i:Nat}
include h i
theorem Tb.at_ {e:El}(am:es[i]? = some e) :
  ∃ g cap v,tv=.slice (some (Ot g 0)) es.length cap/\i<es.length/\vs[i]? = some v/\(∀ j u,(e.hd++[v])[j]? = some u->w.cell? (Ot g (i * so+j))=some u)/\w.ownsRow B h3 kA v e.n e.xs/\g<w.heap.size/\B<=g/\(∀ j,w.frozen? (Ot g j)=false)/\e.hd.length+1=so:=by
 have aQ:i<es.length:=(List.getElem?_eq_some_iff.1 am).1;obtain⟨v,av⟩:∃ v,vs[i]? = some v:=⟨_,List.getElem?_eq_getElem (by rw[h.len];exact aQ)⟩
 have wc:=h.hl e (List.mem_of_getElem? am)
 rcases Qs h.row with ⟨_,az⟩|⟨g,cap,rfl⟩
 ·omega
 ·refine⟨g,cap,v,rfl,aQ,av,fun j u aN=>?_,h.own i e v am av,(h.row.lt g rfl).2,(h.row.lt g rfl).1,h.row.frozenAt,wc⟩;have AS:j<so:=by
   have:=(List.getElem?_eq_some_iff.1 aN).1;simp at this;omega
  have aS:i * so+j<es.length * so:=by
   have h1:(i+1) * so<=es.length * so:=Nat.mul_le_mul_right _ aQ;rw[Nat.add_mul] at h1;omega
  rw[h.row.cellAt _ aS,flat_get es vs i j e v h.hl am av AS];exact aN
theorem Tb.nes {v:OG}(av:vs[i]? = some v):∃ s,es[i]? = some s/\(∀ k,v.ownBlock=some k->B<=k/\k<w.heap.size/\tv.ownBlock≠some k/\∃ c,w.heap[k]? = some (O1 c h3)):=by
 have hl:i<es.length:=by
  have:=(List.getElem?_eq_some_iff.1 av).1;rw[h.len] at this;exact this
 refine⟨es[i],List.getElem?_eq_getElem hl,fun k E=>?_⟩;have aa:=h.own i es[i] v (List.getElem?_eq_getElem hl) av;obtain⟨c,aj⟩:=Qc aa E;have h1:=(aa.lt k E);refine⟨h1.1,h1.2,fun e=>?_,c,aj⟩;obtain⟨en,sI⟩:=Qc h.row e;exact QK aj sI (fun q=>h.ne q.symm) rfl
end
def mem_set {es:List El}{i:Nat}{g0 x:El}(h:x ∈ es.set i g0):x=g0\/x ∈ es:=(List.mem_or_eq_of_mem_set h).symm
def Tb.bump {w1:Ov}(h:Tb B jt so h3 kA w tv es vs)(a8:B<=w.heap.size){i:Nat}{e:El}{v:OG}(am:es[i]? = some e)(av:vs[i]? = some v)
  (dg:w.grownBy w1 v.ownBlock) {mH:Nat} {s8:List OG} (hown:w1.ownsRow B h3 kA v mH s8):Tb B jt so h3 kA w1 tv (es.set i ⟨e.hd,mH,s8⟩) vs/\Py [h3] B w w1:=by
 obtain⟨jz,_,cl⟩:=h.nes av;have JV:vs.set i v=vs:=by
  obtain⟨ae,rfl⟩:=List.getElem?_eq_some_iff.1 av;exact List.set_getElem_self ae
 have wc:=h.hl e (List.mem_of_getElem? am);refine⟨⟨?_,by simpa using h.len,?_,?_,h.apart,h.ne⟩,Py.grown dg a8 fun k E=>⟨(cl k E).1,(cl k E).2.2.2.choose,h3,(cl k E).2.2.2.choose_spec,by simp⟩⟩
 ·have E:=h.row.kept dg (by
   cases ac:tv.ownBlock with
   | none=>exact .inl rfl
   | some q=>exact .inr fun e=>(cl q e.symm).2.2.1 ac)
  have ay:=abV es vs i e ⟨e.hd,mH,s8⟩ v h.hl h.len am rfl;rw[JV] at ay;have bz:=flat_get es vs i (so - 1) e v h.hl am av Ou;rw[List.getElem?_append_right Ou,show so - 1 - e.hd.length=0 by omega] at bz;rw[List.length_set,ay];rw[show (flat es vs).set (i * so+(so - 1)) v=flat es vs by
   obtain⟨ae,hy⟩:=List.getElem?_eq_some_iff.1 (bz.trans rfl);rw[<-hy];exact List.set_getElem_self ae]
  exact E
 ·intro x ae
  rcases mem_set ae with rfl|ae
  ·exact wc
  ·exact h.hl x ae
 ·intro j fd v' aN hS
  by_cases iN:i=j
  ·subst iN;rw[av] at hS
   cases hS
   have:i<es.length:=(List.getElem?_eq_some_iff.1 am).1;simp[List.getElem?_set_self this] at aN;subst aN;exact hown
  ·rw[List.getElem?_set_ne iN] at aN;refine(h.own j fd v' aN hS).kept dg ?_
   cases ag:v'.ownBlock with
   | none=>exact .inl rfl
   | some q=>exact .inr fun e=>iN (h.apart i j v v' q av hS e.symm ag)
def Tb.put {w1:Ov}{g cap:Nat}(h:Tb B jt so h3 kA w (.slice (some (Ot g 0)) es.length cap) es vs)(a8:B<=w.heap.size){i:Nat}{e:El}{v:OG}(am:es[i]? = some e)(av:vs[i]? = some v)
  (dg:w.grownBy w1 v.ownBlock) {v':OG} {mH:Nat} {s8:List OG} (hown:w1.ownsRow B h3 kA v' mH s8) (iM:∀ q,v'.ownBlock=some q->v.ownBlock=some q\/w.heap.size<=q) :
  Tb B jt so h3 kA (w1.setCell (Ot g (i * so+(so - 1))) v') (.slice (some (Ot g 0)) es.length cap) (es.set i ⟨e.hd,mH,s8⟩) (vs.set i v')/\Py [jt,h3] B w (w1.setCell (Ot g (i * so+(so - 1))) v'):=by
 obtain⟨jz,_,cl⟩:=h.nes av;have dI:=h.row.lt g rfl;obtain⟨m3,ju⟩:=Qc h.row (k:=g) rfl;have AM:v.ownBlock≠some g:=fun e=>(cl g e).2.2.1 rfl;have IZ:v'.ownBlock≠some g:=fun e=>by
  rcases iM g e with h1|h1
  ·exact AM h1
  ·omega
 have E:=h.row.kept dg (.inr (fun e=>AM e.symm));obtain⟨bI,h5⟩:=E.stored (i * so+(so - 1)) v';obtain⟨c1,f0⟩:=Qc E (k:=g) rfl;have ay:=abV es vs i e ⟨e.hd,mH,s8⟩ v' h.hl h.len am rfl;have aQ:i<es.length:=(List.getElem?_eq_some_iff.1 am).1;have wc:=h.hl e (List.mem_of_getElem? am);refine⟨⟨?_,by simpa using h.len,?_,?_,?_,h.ne⟩,?_⟩
 ·rw[List.length_set,ay];exact bI
 ·intro x ae
  rcases mem_set ae with rfl|ae
  ·exact wc
  ·exact h.hl x ae
 ·intro j fd u aN aT
  by_cases iN:i=j
  ·subst iN;rw[List.getElem?_set_self (by rw[h.len];exact aQ)] at aT
   cases aT;simp[List.getElem?_set_self aQ] at aN;subst aN;exact ownsRow_setCell_other hown IZ _
  ·rw[List.getElem?_set_ne iN] at aN aT;have Ja:w1.ownsRow B h3 kA u fd.n fd.xs:=by
    refine(h.own j fd u aN aT).kept dg ?_
    cases ag:u.ownBlock with
    | none=>exact .inl rfl
    | some q=>exact .inr fun e=>iN (h.apart i j v u q av aT e.symm ag)
   obtain⟨_,_,wn⟩:=h.nes aT;exact ownsRow_setCell_other Ja (fun e=>(wn g e).2.2.1 rfl) _
 ·have key:∀ (j:Nat) b q,j≠i->vs[j]? = some b->v'.ownBlock=some q->b.ownBlock=some q->False:=by
   intro j b q aN D h1 U
   rcases iM q h1 with aw|aL
   ·exact aN (h.apart j i b v q D av U aw)
   ·obtain⟨_,_,wn⟩:=h.nes D;have:=(wn q U).2.1;omega
  intro a b x y q ax D ae hy
  by_cases Ar:i=a
  ·subst Ar
   by_cases oO:i=b
   ·exact oO
   ·rw[List.getElem?_set_self (by rw[h.len];exact aQ)] at ax
    cases ax;rw[List.getElem?_set_ne oO] at D;exact(key b y q (fun e=>oO e.symm) D ae hy).elim
  ·rw[List.getElem?_set_ne Ar] at ax
   by_cases oO:i=b
   ·subst oO;rw[List.getElem?_set_self (by rw[h.len];exact aQ)] at D
    cases D;exact(key a x q (fun e=>Ar e.symm) ax hy ae).elim
   ·rw[List.getElem?_set_ne oO] at D;exact h.apart a b x y q ax D ae hy
 ·exact Py.setCell (Py.grown dg a8 fun k E=>⟨(cl k E).1,(cl k E).2.2.2.choose,h3,(cl k E).2.2.2.choose_spec,by simp⟩) f0 O8 dI.1 _
def Tb.push {w1:Ov}{tv':OG}(h:Tb B jt so h3 kA w tv es vs)(a8:B<=w.heap.size)(hd:List OG)(hh:hd.length+1=so)(dg:w.grownBy w1 tv.ownBlock)
  (hown:w1.ownsRow B jt so tv' (es.length+1) (flat es vs++(hd++[QD]))) :
  Tb B jt so h3 kA w1 tv' (es++[⟨hd,0,[]⟩]) (vs++[QD])/\Py [jt] B w w1:=by
 refine⟨⟨?_,by simp[h.len],?_,?_,?_,h.ne⟩,Py.grown dg a8 fun k E=>?_⟩
 ·rw[agx _ _ _ _ h.len,List.length_append];exact hown
 ·intro x ae
  rcases List.mem_append.1 ae with ae|ae
  ·exact h.hl x ae
  ·simp at ae;subst ae;exact hh
 ·intro j fd u aN aT
  by_cases nc:j<es.length
  ·rw[List.getElem?_append_left nc] at aN;rw[List.getElem?_append_left (by rw[h.len];exact nc)] at aT
   obtain⟨_,_,wn⟩:=h.nes aT;refine(h.own j fd u aN aT).kept dg ?_
   cases ag:u.ownBlock with
   | none=>exact .inl rfl
   | some q=>exact .inr fun e=>(wn q ag).2.2.1 e.symm
  ·have we:=(List.getElem?_eq_some_iff.1 aN).1;simp at we;have:j=es.length:=Ou;subst this;rw[List.getElem?_append_right Ou] at aN;rw[List.getElem?_append_right (by rw[h.len];omega)] at aT
   simp[h.len] at aN aT;subst aN aT;exact World.ownsRow_nil _ _ _ _
 ·intro i j a b q ax D sR nj;have key:∀ (i:Nat) (a:OG),(vs++[QD])[i]? = some a->a.ownBlock=some q->vs[i]? = some a:=by
   intro i a ax ag
   by_cases ri:i<vs.length
   ·rw[List.getElem?_append_left ri] at ax;exact ax
   ·rw[List.getElem?_append_right Ou] at ax;have jM:i - vs.length=0:=by
     have:=(List.getElem?_eq_some_iff.1 ax).1;simp at this;omega
    rw[jM] at ax;simp at ax;subst ax;simp[Value.ownBlock] at ag
  exact h.apart i j a b q (key i a ax sR) (key j b D nj) sR nj
 ·obtain⟨c,aj⟩:=Qc h.row E;exact⟨(h.row.lt k E).1,c,jt,aj,by simp⟩
structure Va where
 k:Int
 n:Int
 s:OH
structure Pr where
 name:OH
 v:Va
 fixed:Bool
structure Ce where
 name:OH
 v:Va
 kind:Int
 ready:Bool
structure Ob where
 code:Int
 ps:List Pr
structure Ro where
 outer:Int
 object:Int
 cs:List Ce
structure Mo where
 objs:List Ob
 OI:List Ro
def Pr.h (p:Pr):List OG:=[OB p.name,Ol p.v.k,Ol p.v.n,OB p.v.s,OC p.fixed]
def Ce.h (c:Ce):List OG:=[OB c.name,Ol c.v.k,Ol c.v.n,OB c.v.s,Ol c.kind,OC c.ready]
def Ob.h (o:Ob):El:=⟨[Ol o.code],o.ps.length,o.ps.flatMap Pr.h⟩
def Ro.h (r:Ro):El:=⟨[Ol r.outer,Ol r.object],r.cs.length,r.cs.flatMap Ce.h⟩
def Z7 (nm:OH)(x:OH):Bool:=x.toList==nm.toList
def fP (nm:OH)(ps:List Pr):Option Nat:=ps.findIdx? fun p=>Z7 nm p.name
def fC (nm:OH)(cs:List Ce):Option Nat:=cs.findIdx? fun c=>Z7 nm c.name
def XB {α:Type}{f:α->List OG}{s:Nat}(aH:∀ a,(f a).length=s):∀ (l:List α) (k j:Nat),j<s->(l.flatMap f)[k * s+j]? =(l[k]?).bind fun a=>(f a)[j]?
 | [],k,j,_=>by simp
 | a::l,0,j,aN=>by
  rw[List.flatMap_cons,Nat.zero_mul,Nat.zero_add,List.getElem?_append_left (by rw[aH];exact aN)]
  rfl
 | a::l,k+1,j,aN=>by
  have h:=XB aH l k j aN;rw[List.flatMap_cons,show (k+1) * s+j=(f a).length+(k * s+j) by rw[aH,Nat.add_mul];omega,List.getElem?_append_right Ou,Nat.add_sub_cancel_left,h]
  rfl
def aog {α:Type}{f:α->List OG}{s:Nat}(aH:∀ a,(f a).length=s)(l:List α):(l.flatMap f).length=l.length * s:=by
 induction l with
 | nil=>simp
 | cons a l bn=>rw[List.flatMap_cons,List.length_append,bn,aH,List.length_cons,Nat.add_mul];omega
structure HP (H:Nat)(R:List OG)(w:Ov)(M:Mo)(aA aC:OG)(os cf:List OG):Prop where
 blk:w.heap[H]? = some (.cells (aA::aC::R).toArray 84 (0,0))
 ob:Tb H 185 2 207 5 w aA (M.objs.map Ob.h) os
 ro:Tb H 198 3 262 6 w aC (M.OI.map Ro.h) cf
def PS (H:Nat)(R:List OG)(w:Ov)(M:Mo):Prop:=∃ aA aC os cf,HP H R w M aA aC os cf
def HP.later {H:Nat}{R:List OG}{w w':Ov}{M:Mo}{aA aC:OG}{os cf:List OG}(h:HP H R w M aA aC os cf)(D:OD w w'):HP H R w' M aA aC os cf:=
 ⟨(D.block H (lt_of_block h.blk)).trans h.blk,h.ob.later D,h.ro.later D⟩
def HP.c {H:Nat}{R:List OG}{w:Ov}{M:Mo}{aA aC:OG}{os cf:List OG}(h:HP H R w M aA aC os cf):w.cell? (Ot H 0)=some aA/\w.cell? (Ot H 1)=some aC/\w.frozen? (Ot H 0)=false/\w.frozen? (Ot H 1)=false/\H<w.heap.size:=by
 refine⟨?_,?_,?_,?_,lt_of_block h.blk⟩
 ·simp[World.cell?,h.blk]
 ·simp[World.cell?,h.blk]
 all_goals
  simp[World.frozen?,h.blk]
def aa0 (s:Nat):OG->Option Nat->Option Addr
 | .slice (some a) _ _,some k=>some (Ot a.block (k * s))
 | _,_=>none
def Yy (s:Nat)(v:OG):aa0 s v none=none:=by cases v <;> simp[aa0]
def Yx (v:OG)(n:Nat)(av:v=QD/\n=0\/∃ g cap,v=.slice (some (Ot g 0)) n cap)(i:Int)(am:i<0\/(n:Int)<=i)(w:Ov) :
  OE 126 #[v,Ol i] w fun e w'=>e=OQ Ri/\w'=w:=by
 rcases av with ⟨rfl,rfl⟩|⟨g,cap,rfl⟩
 ·go_enter func126,ntmps126
  go_wp2
  all_goals go_ret
  all_goals exact⟨rfl,rfl⟩
 ·go_enter func126,ntmps126;exact ar4
def abY (g cap n:Nat)(i:Nat)(am:i<n)(w:Ov) :
  OE 126 #[.slice (some (Ot g 0)) n cap,Ol (i:Int)] w fun e w'=>e=OQ (OM g (i * 2))/\w'=w:=by
 go_enter func126,ntmps126;exact ar4
def ar5 (b:Nat)(k:Nat)(s x:OH)(bD:Nat)(w:Ov)(h:w.cell? (Ot b k)=some (OB x))(aI:w.cell? (Ot bD 0)=some (OB s)) :
  OE 206 #[OM b k,OM bD 0] w fun e w'=>e=OQ (OC (x.toList==s.toList))/\w'=w.drew:=by
 go_enter func206,ntmps206
 go_wp2
 go_region_with fail
 all_goals go_wp2
 all_goals go_ret
 all_goals exact⟨rfl,rfl⟩
def aiM (v:OG)(bs:List Pr)(base:Nat)(s:OH)(bD:Nat)(w:Ov)(hrow:w.ownsRow base 207 5 v bs.length (bs.flatMap Pr.h))(aS:bs.length<=1000000000)(aI:w.cell? (Ot bD 0)=some (OB s)) :
  OE 205 #[v,.func (.func 206) #[] #[OM bD 0]] w fun e w'=>e=OQ (.pointer (aa0 5 v (fP s bs)))/\OD w w':=by
 rcases Qs hrow with ⟨rfl,az⟩|⟨g,cap,rfl⟩
 ·have:bs=[]:=List.length_eq_zero_iff.1 az;subst this;clear az aS;go_enter func205,ntmps205;exact aAA
 ·have aQ:=(hrow.lt g rfl).2;have tH:=hide (World.block_lt_of_cell? w _ aI);have uQ:Hid (∀ k b,bs[k]? = some b->w.cell? (Ot g (k * 5))=some (OB b.name)):=fun k b D=>by
   have E:k<bs.length:=(List.getElem?_eq_some_iff.1 D).1;have h:=hrow.cellAt (k * 5+0) Ou;rw[XB (s:=5) (fun _=>rfl) bs k 0 Oz,D] at h;simpa[Pr.h] using h
  have dW:=hide aI;have bS:=hide aQ;clear aI aQ;go_enter func205,ntmps205;go_wp2_with fail
  go_loopw [8] (fun i wr=>∃ k:Nat,k<=bs.length/\i=Ol k/\(∀ j b,j<k->bs[j]? = some b->Z7 s b.name=false)/\OD w wr) (fun i _=>bs.length - (intOf i).toNat)
  case atStart=>exact⟨0,Nat.zero_le _,rfl,fun j b aN=>absurd aN (Nat.not_lt_zero _),QX⟩
  case round=>
   obtain⟨k,E,rfl,gM,D⟩:=hrel;have mY:=hide gM;have bL:=D;clear gM D
   by_cases aQ:k<bs.length
   ·obtain⟨b,hbk⟩:∃ b,bs[k]? = some b:=⟨_,List.getElem?_eq_getElem aQ⟩;have h1:wr.cell? (Ot g (k * 5))=some (OB b.name):=(cell_below bL (a:=(Ot g (k * 5))) bS.out).trans (uQ.out k b hbk);have U:wr.cell? (Ot bD 0)=some (OB s):=(cell_below bL (a:=(Ot bD 0)) tH.out).trans dW.out;have ai:=(ar5 g (k * 5) s b.name bD wr h1 U);have lE:=hide hbk;clear h1 U hbk
    cases ae:(b.name.toList==s.toList)
    ·exact aAB
    ·rw[ae] at ai;have dQ:=hide ae;clear ae;have z:=Oq (∀{G}(h:G:=by
     go_ret;have aH:fP s bs=some k:=by
      rw[fP,List.findIdx?_eq_some_iff_getElem];exact aAC
     rw[aH];exact⟨rfl,bL.drew⟩),G);exact aeE
   ·have kV:k=bs.length:=Ou;subst kV;go_wp2;go_ret;have aH:fP s bs=none:=by
     rw[fP,List.findIdx?_eq_none_iff];intro b D;obtain⟨j,aN,rfl⟩:=List.mem_iff_getElem.1 D;exact mY.out j _ aN (List.getElem?_eq_getElem aN)
    rw[aH];exact⟨rfl,bL⟩
def aop (s:OH)(w:Ov) :
  OE 127 #[Ri,OB s] w fun e w'=>e=OQ Ri/\OD w w':=by
 go_enter func127,ntmps127;go_wp2;go_ret;exact⟨rfl,PO⟩
def aeI (g k:Nat)(v:OG)(bs:List Pr)(base:Nat)(s:OH)(w:Ov)(h:w.cell? (Ot g (k+1))=some v)(hrow:w.ownsRow base 207 5 v bs.length (bs.flatMap Pr.h))(aS:bs.length<=1000000000) :
  OE 127 #[OM g k,OB s] w fun e w'=>e=OQ (.pointer (aa0 5 v (fP s bs)))/\OD w w':=by
 have hg:=World.block_lt_of_cell? w _ h;have iM:g<w.heap.size:=hg;have ai:=(aiM v bs base s w.heap.size (w.alloc (.cells #[OB s] 9)) (hrow.alloc _) aS O8);have av:=Qs hrow;clear hg;go_enter func127,ntmps127;exact aAD
def XD (v:OG)(n:Nat)(av:v=QD/\n=0\/∃ g cap,v=.slice (some (Ot g 0)) n cap)(i:Int)(am:i<0\/(n:Int)<=i)(w:Ov) :
  OE 122 #[v,Ol i] w fun e w'=>e=OQ Ri/\w'=w:=by
 rcases av with ⟨rfl,rfl⟩|⟨g,cap,rfl⟩
 ·go_enter func122,ntmps122
  go_wp2
  all_goals go_ret
  all_goals exact⟨rfl,rfl⟩
 ·go_enter func122,ntmps122;exact ar4
def aal (g cap n:Nat)(i:Nat)(am:i<n)(w:Ov) :
  OE 122 #[.slice (some (Ot g 0)) n cap,Ol (i:Int)] w fun e w'=>e=OQ (OM g (i * 3))/\w'=w:=by
 go_enter func122,ntmps122;exact ar4
def ar6 (b:Nat)(k:Nat)(s x:OH)(bD:Nat)(w:Ov)(h:w.cell? (Ot b k)=some (OB x))(aI:w.cell? (Ot bD 0)=some (OB s)) :
  OE 204 #[OM b k,OM bD 0] w fun e w'=>e=OQ (OC (x.toList==s.toList))/\w'=w.drew:=by
 go_enter func204,ntmps204
 go_wp2
 go_region_with fail
 all_goals go_wp2
 all_goals go_ret
 all_goals exact⟨rfl,rfl⟩
def aiN (v:OG)(bs:List Ce)(base:Nat)(s:OH)(bD:Nat)(w:Ov)(hrow:w.ownsRow base 262 6 v bs.length (bs.flatMap Ce.h))(aS:bs.length<=1000000000)(aI:w.cell? (Ot bD 0)=some (OB s)) :
  OE 203 #[v,.func (.func 204) #[] #[OM bD 0]] w fun e w'=>e=OQ (.pointer (aa0 6 v (fC s bs)))/\OD w w':=by
 rcases Qs hrow with ⟨rfl,az⟩|⟨g,cap,rfl⟩
 ·have:bs=[]:=List.length_eq_zero_iff.1 az;subst this;clear az aS;go_enter func203,ntmps203;exact aAA
 ·have aQ:=(hrow.lt g rfl).2;have tH:=hide (World.block_lt_of_cell? w _ aI);have uQ:Hid (∀ k b,bs[k]? = some b->w.cell? (Ot g (k * 6))=some (OB b.name)):=fun k b D=>by
   have E:k<bs.length:=(List.getElem?_eq_some_iff.1 D).1;have h:=hrow.cellAt (k * 6+0) Ou;rw[XB (s:=6) (fun _=>rfl) bs k 0 Oz,D] at h;simpa[Ce.h] using h
  have dW:=hide aI;have bS:=hide aQ;clear aI aQ;go_enter func203,ntmps203;go_wp2_with fail
  go_loopw [8] (fun i wr=>∃ k:Nat,k<=bs.length/\i=Ol k/\(∀ j b,j<k->bs[j]? = some b->Z7 s b.name=false)/\OD w wr) (fun i _=>bs.length - (intOf i).toNat)
  case atStart=>exact⟨0,Nat.zero_le _,rfl,fun j b aN=>absurd aN (Nat.not_lt_zero _),QX⟩
  case round=>
   obtain⟨k,E,rfl,gM,D⟩:=hrel;have mY:=hide gM;have bL:=D;clear gM D
   by_cases aQ:k<bs.length
   ·obtain⟨b,hbk⟩:∃ b,bs[k]? = some b:=⟨_,List.getElem?_eq_getElem aQ⟩;have h1:wr.cell? (Ot g (k * 6))=some (OB b.name):=(cell_below bL (a:=(Ot g (k * 6))) bS.out).trans (uQ.out k b hbk);have U:wr.cell? (Ot bD 0)=some (OB s):=(cell_below bL (a:=(Ot bD 0)) tH.out).trans dW.out;have ai:=(ar6 g (k * 6) s b.name bD wr h1 U);have lE:=hide hbk;clear h1 U hbk
    cases ae:(b.name.toList==s.toList)
    ·exact aAB
    ·rw[ae] at ai;have dQ:=hide ae;clear ae;have z:=Oq (∀{G}(h:G:=by
     go_ret;have aH:fC s bs=some k:=by
      rw[fC,List.findIdx?_eq_some_iff_getElem];exact aAC
     rw[aH];exact⟨rfl,bL.drew⟩),G);exact aeE
   ·have kV:k=bs.length:=Ou;subst kV;go_wp2;go_ret;have aH:fC s bs=none:=by
     rw[fC,List.findIdx?_eq_none_iff];intro b D;obtain⟨j,aN,rfl⟩:=List.mem_iff_getElem.1 D;exact mY.out j _ aN (List.getElem?_eq_getElem aN)
    rw[aH];exact⟨rfl,bL⟩
def aoq (s:OH)(w:Ov) :
  OE 123 #[Ri,OB s] w fun e w'=>e=OQ Ri/\OD w w':=by
 go_enter func123,ntmps123;go_wp2;go_ret;exact⟨rfl,PO⟩
def aeJ (g k:Nat)(v:OG)(bs:List Ce)(base:Nat)(s:OH)(w:Ov)(h:w.cell? (Ot g (k+2))=some v)(hrow:w.ownsRow base 262 6 v bs.length (bs.flatMap Ce.h))(aS:bs.length<=1000000000) :
  OE 123 #[OM g k,OB s] w fun e w'=>e=OQ (.pointer (aa0 6 v (fC s bs)))/\OD w w':=by
 have hg:=World.block_lt_of_cell? w _ h;have iM:g<w.heap.size:=hg;have ai:=(aiN v bs base s w.heap.size (w.alloc (.cells #[OB s] 9)) (hrow.alloc _) aS O8);have av:=Qs hrow;clear hg;go_enter func123,ntmps123;exact aAD
def Mo.ob (M:Mo)(o:Int):Option Ob:=if o<0 then none else M.objs[o.toNat]?
def Mo.ro (M:Mo)(s:Int):Option Ro:=if s<0 then none else M.OI[s.toNat]?
def Mo.prop (M:Mo)(o:Int)(nm:OH):Option Pr:=(M.ob o).bind fun x=>x.ps.find? fun p=>Z7 nm p.name
def Mo.Y3 (M:Mo)(s:Int)(nm:OH):Option Ce:=(M.ro s).bind fun x=>x.cs.find? fun c=>Z7 nm c.name
def Mo.RD (M:Mo)(s:Int):Int:=((M.ro s).map (·.object)).getD (-1)
def Mo.outOf (M:Mo)(s:Int):Int:=((M.ro s).map (·.outer)).getD (-1)
def Mo.codeOf (M:Mo)(s:Int):Int:=((M.ob s).map (·.code)).getD 0
def Mo.has (M:Mo)(s:Int)(nm:OH):Bool:=(M.Y3 s nm).isSome||(M.prop (M.RD s) nm).isSome
def Mo.kindOf (M:Mo)(s:Int)(nm:OH):Int:=((M.Y3 s nm).map (·.kind)).getD (-1)
structure Mo.Small (M:Mo)(k:Nat):Prop where
 o:M.objs.length<=k
 r:M.OI.length<=k
 ps:∀ x ∈ M.objs,x.ps.length<=k
 cs:∀ x ∈ M.OI,x.cs.length<=k
def vZ:Obj:=.cells #[Ol 0,Ol 0,PN] 65
def aor:OG:=.agg #[Ol 0,Ol 0,PN]
def aos:Option Pr->OG
 | none=>aor
 | some p=>.agg #[Ol p.v.k,Ol p.v.n,OB p.v.s]
def hP (H:Nat):OG:=OM H 0
def YK {w w1:Ov}{a b c:OG}{t:TypeId}(D:Below (w.heap.size+1) (w.alloc (.cells #[a,b,c] t)) w1) :
  w1.cell? (Ot w.heap.size 0)=some a/\w1.cell? (Ot w.heap.size 1)=some b/\w1.cell? (Ot w.heap.size 2)=some c/\(∀ j,w1.frozen? (Ot w.heap.size j)=false)/\w.heap.size<w1.heap.size:=by
 have h:w1.heap[w.heap.size]? = some (O1 #[a,b,c] t):=(D.block _ (Nat.lt_succ_self _)).trans (heap_alloc_new w _);refine⟨by simp[World.cell?,h],by simp[World.cell?,h],by simp[World.cell?,h],fun j=>by simp[World.frozen?,h],lt_of_block h⟩
def below3 {w gG:Ov}{B b:Nat}(D:Below B w gG)(h:B<=b)(v0 v1 v2:OG):Below B w (((gG.setCell (Ot b 0) v0).setCell (Ot b 1) v1).setCell (Ot b 2) v2):=
 ((D.setCell (p:=(Ot b 0)) h v0).setCell (p:=(Ot b 1)) h v1).setCell (p:=(Ot b 2)) h v2
def VW {α:Type}(p:α->Bool)(l:List α):(l.findIdx? p=none/\l.find? p=none)\/∃ k c,l.findIdx? p=some k/\l[k]? = some c/\l.find? p=some c/\p c=true:=by
 cases h:l.findIdx? p with
 | none=>
  left;refine⟨rfl,?_⟩;rw[List.findIdx?_eq_none_iff] at h;rw[List.find?_eq_none];intro x ae;simp[h x ae]
 | some k=>
  right;obtain⟨E,h1,U⟩:=List.findIdx?_eq_some_iff_getElem.1 h;refine⟨k,l[k],rfl,List.getElem?_eq_getElem E,?_,h1⟩;rw[List.find?_eq_some_iff_getElem];exact⟨h1,k,E,rfl,fun j aN=>by have:=U j aN;simpa using this⟩
def Rn (M:Mo)(o:Int):(M.ob o=none/\(o<0\/(M.objs.length:Int)<=o))\/∃ (i:Nat) (x:Ob),o=i/\M.objs[i]? = some x/\M.ob o=some x:=by
 unfold Mo.ob
 by_cases h:o<0
 ·rw[if_pos h];exact .inl ⟨rfl,.inl h⟩
 ·rw[if_neg h]
  cases ae:M.objs[o.toNat]? with
  | none=>
   left;refine⟨rfl,.inr ?_⟩;have:=List.getElem?_eq_none_iff.1 ae;omega
  | some x=>exact .inr ⟨o.toNat,x,by omega,ae,rfl⟩
def aot (W:Ov)(iJ k:Nat)(c:Pr):Prop:=(∀ j u,c.h[j]? = some u->W.cell? (Ot iJ (k * 5+j))=some u)/\iJ<W.heap.size/\∀ j,W.frozen? (Ot iJ j)=false
def atP {B:Nat}{w:Ov}{v:OG}{bs:List Pr}(hrow:w.ownsRow B 207 5 v bs.length (bs.flatMap Pr.h)){k:Nat}{b:Pr}(D:bs[k]? = some b) :
  ∃ g cap,v=.slice (some (Ot g 0)) bs.length cap/\k<bs.length/\aot w g k b/\B<=g:=by
 have E:k<bs.length:=(List.getElem?_eq_some_iff.1 D).1
 rcases Qs hrow with ⟨_,az⟩|⟨g,cap,rfl⟩
 ·omega
 ·refine⟨g,cap,rfl,E,⟨fun j u aN=>?_,(hrow.lt g rfl).2,hrow.frozenAt⟩,(hrow.lt g rfl).1⟩;have we:j<5:=(List.getElem?_eq_some_iff.1 aN).1;rw[hrow.cellAt _ Ou,XB (s:=5) (fun _=>rfl) bs k j we,D];exact aN
def aoh {H:Nat}{R:List OG}{w:Ov}{M:Mo}{aA aC:OG}{os cf:List OG}(h:HP H R w M aA aC os cf){K:Nat}(ac:M.Small K)(A:K<=1000000000)(o:Int)(nm:OH) :
  ∃ q r,OE 126 #[aA,Ol o] w (fun e w'=>e=OQ (.pointer q)/\w'=w)/\OE 127 #[.pointer q,OB nm] w (fun e w'=>e=OQ (.pointer r)/\OD w w') /\
   ((r=none/\M.prop o nm=none)\/∃ (i:Nat) (x:Ob) (k:Nat) (c:Pr) (g cap:Nat),o=i/\M.objs[i]? = some x/\fP nm x.ps=some k/\x.ps[k]? = some c/\M.prop o nm=some c/\r=some (Ot g (k * 5))/\os[i]? = some (.slice (some (Ot g 0)) x.ps.length cap)/\∀ W,OD w W->aot W g k c):=by
 rcases Rn M o with ⟨h0,hout⟩|⟨i,x,rfl,ae,h1⟩
 ·refine⟨none,none,Yx aA _ (Qs h.ob.row) o (by simpa using hout) w,aop nm w,.inl ⟨rfl,by simp[Mo.prop,h0]⟩⟩
 ·obtain⟨g,cap,v,ay,aQ,av,aj,hrow,hg,a8,aH,_⟩:=h.ob.at_ (i:=i) (e:=x.h) (by simp[ae]);have mE:=ac.ps x (List.mem_of_getElem? ae);have eS:w.cell? (Ot g (i * 2+1))=some v:=aj 1 v rfl;have hrow':w.ownsRow H 207 5 v x.ps.length (x.ps.flatMap Pr.h):=hrow;refine⟨some (Ot g (i * 2)),aa0 5 v (fP nm x.ps),?_,aeI g (i * 2) v x.ps H nm w eS hrow' Ou,?_⟩
  ·rw[ay];exact abY g cap _ i aQ w
  ·rcases VW (fun c=>Z7 nm c.name) x.ps with ⟨d5,dX⟩|⟨k,c,d5,dX,fU,_⟩
   ·left;refine⟨?_,by simp[Mo.prop,h1,dX]⟩;rw[show fP nm x.ps=none from d5];exact Yy _ _
   ·right;obtain⟨iJ,m2,rfl,cM,t1,Iu⟩:=atP hrow' dX;refine⟨i,x,k,c,iJ,m2,rfl,ae,d5,dX,by simp[Mo.prop,h1,fU],?_,av,fun W a1=>?_⟩
    ·rw[show fP nm x.ps=some k from d5];rfl
    ·obtain⟨g2,cap',hS,_,bY,_⟩:=atP (Pe hrow' a1) dX;exact aAE
def P7 (M:Mo)(o:Int):(M.ro o=none/\(o<0\/(M.OI.length:Int)<=o))\/∃ (i:Nat) (x:Ro),o=i/\M.OI[i]? = some x/\M.ro o=some x:=by
 unfold Mo.ro
 by_cases h:o<0
 ·rw[if_pos h];exact .inl ⟨rfl,.inl h⟩
 ·rw[if_neg h]
  cases ae:M.OI[o.toNat]? with
  | none=>
   left;refine⟨rfl,.inr ?_⟩;have:=List.getElem?_eq_none_iff.1 ae;omega
  | some x=>exact .inr ⟨o.toNat,x,by omega,ae,rfl⟩
def aou (W:Ov)(iJ k:Nat)(c:Ce):Prop:=(∀ j u,c.h[j]? = some u->W.cell? (Ot iJ (k * 6+j))=some u)/\iJ<W.heap.size/\∀ j,W.frozen? (Ot iJ j)=false
def atC {B:Nat}{w:Ov}{v:OG}{bs:List Ce}(hrow:w.ownsRow B 262 6 v bs.length (bs.flatMap Ce.h)){k:Nat}{b:Ce}(D:bs[k]? = some b) :
  ∃ g cap,v=.slice (some (Ot g 0)) bs.length cap/\k<bs.length/\aou w g k b/\B<=g:=by
 have E:k<bs.length:=(List.getElem?_eq_some_iff.1 D).1
 rcases Qs hrow with ⟨_,az⟩|⟨g,cap,rfl⟩
 ·omega
 ·refine⟨g,cap,rfl,E,⟨fun j u aN=>?_,(hrow.lt g rfl).2,hrow.frozenAt⟩,(hrow.lt g rfl).1⟩;have we:j<6:=(List.getElem?_eq_some_iff.1 aN).1;rw[hrow.cellAt _ Ou,XB (s:=6) (fun _=>rfl) bs k j we,D];exact aN
def YR {H:Nat}{R:List OG}{w:Ov}{M:Mo}{aA aC:OG}{os cf:List OG}(h:HP H R w M aA aC os cf){K:Nat}(ac:M.Small K)(A:K<=1000000000)(o:Int)(nm:OH) :
  ∃ q r,OE 122 #[aC,Ol o] w (fun e w'=>e=OQ (.pointer q)/\w'=w)/\OE 123 #[.pointer q,OB nm] w (fun e w'=>e=OQ (.pointer r)/\OD w w') /\
   ((r=none/\M.Y3 o nm=none)\/∃ (i:Nat) (x:Ro) (k:Nat) (c:Ce) (g cap:Nat),o=i/\M.OI[i]? = some x/\fC nm x.cs=some k/\x.cs[k]? = some c/\M.Y3 o nm=some c/\r=some (Ot g (k * 6))/\cf[i]? = some (.slice (some (Ot g 0)) x.cs.length cap)/\∀ W,OD w W->aou W g k c):=by
 rcases P7 M o with ⟨h0,hout⟩|⟨i,x,rfl,ae,h1⟩
 ·refine⟨none,none,XD aC _ (Qs h.ro.row) o (by simpa using hout) w,aoq nm w,.inl ⟨rfl,by simp[Mo.Y3,h0]⟩⟩
 ·obtain⟨g,cap,v,ay,aQ,av,aj,hrow,hg,a8,aH,_⟩:=h.ro.at_ (i:=i) (e:=x.h) (by simp[ae]);have mE:=ac.cs x (List.mem_of_getElem? ae);have eS:w.cell? (Ot g (i * 3+2))=some v:=aj 2 v rfl;have hrow':w.ownsRow H 262 6 v x.cs.length (x.cs.flatMap Ce.h):=hrow;refine⟨some (Ot g (i * 3)),aa0 6 v (fC nm x.cs),?_,aeJ g (i * 3) v x.cs H nm w eS hrow' Ou,?_⟩
  ·rw[ay];exact aal g cap _ i aQ w
  ·rcases VW (fun c=>Z7 nm c.name) x.cs with ⟨d5,dX⟩|⟨k,c,d5,dX,fU,_⟩
   ·left;refine⟨?_,by simp[Mo.Y3,h1,dX]⟩;rw[show fC nm x.cs=none from d5];exact Yy _ _
   ·right;obtain⟨iJ,m2,rfl,cM,t1,Iu⟩:=atC hrow' dX;refine⟨i,x,k,c,iJ,m2,rfl,ae,d5,dX,by simp[Mo.Y3,h1,fU],?_,av,fun W a1=>?_⟩
    ·rw[show fC nm x.cs=some k from d5];rfl
    ·obtain⟨g2,cap',hS,_,bY,_⟩:=atC (Pe hrow' a1) dX;exact aAE
variable {H K:Nat}{R os cf:List OG}{M:Mo}{aA aC:OG}
section
variable (h:HP H R w M aA aC os cf) (s:Int)
include h s
theorem aam:OE 125 #[hP H,Ol s] w fun e w'=>e=OQ (Ol (M.RD s))/\w'=w:=by
 obtain⟨h0,h1,aH,hb,hl⟩:=h.c;unfold hP
 rcases P7 M s with ⟨aK,hout⟩|⟨i,x,rfl,ae,ay⟩
 ·have ai:=(XD aC _ (Qs h.ro.row) s (by simpa using hout) w);rw[show M.RD s = -1 by simp[Mo.RD,aK]];clear h;go_enter func125,ntmps125;exact alX
 ·obtain⟨g,cap,v,bz,aQ,av,aj,hrow,hg,a8,aH,_⟩:=h.ro.at_ (i:=i) (e:=x.h) (by simp[ae]);have ai:=(aal g cap _ i aQ w);rw[<-bz] at ai;have c1:w.cell? (Ot g (i * 3+1))=some (Ol x.object):=aj 1 _ rfl;rw[show M.RD i=x.object by simp[Mo.RD,ay]];clear h aj bz;go_enter func125,ntmps125;exact alX
theorem adP:OE 252 #[hP H,Ol s] w fun e w'=>e=OQ (Ol (M.outOf s))/\w'=w:=by
 obtain⟨h0,h1,aH,hb,hl⟩:=h.c;unfold hP
 rcases P7 M s with ⟨aK,hout⟩|⟨i,x,rfl,ae,ay⟩
 ·have ai:=(XD aC _ (Qs h.ro.row) s (by simpa using hout) w);rw[show M.outOf s = -1 by simp[Mo.outOf,aK]];clear h;go_enter func252,ntmps252;exact alX
 ·obtain⟨g,cap,v,bz,aQ,av,aj,hrow,hg,a8,aH,_⟩:=h.ro.at_ (i:=i) (e:=x.h) (by simp[ae]);have ai:=(aal g cap _ i aQ w);rw[<-bz] at ai;have c1:w.cell? (Ot g (i * 3))=some (Ol x.outer):=aj 0 _ rfl;rw[show M.outOf i=x.outer by simp[Mo.outOf,ay]];clear h aj bz;go_enter func252,ntmps252;exact alX
theorem Yf:OE 209 #[hP H,Ol s] w fun e w'=>e=OQ (Ol (M.codeOf s))/\w'=w:=by
 obtain⟨h0,h1,aH,hb,hl⟩:=h.c;unfold hP
 rcases Rn M s with ⟨aK,hout⟩|⟨i,x,rfl,ae,ay⟩
 ·have ai:=(Yx aA _ (Qs h.ob.row) s (by simpa using hout) w);rw[show M.codeOf s=0 by simp[Mo.codeOf,aK]];clear h;go_enter func209,ntmps209;exact alX
 ·obtain⟨g,cap,v,bz,aQ,av,aj,hrow,hg,a8,aH,_⟩:=h.ob.at_ (i:=i) (e:=x.h) (by simp[ae]);have ai:=(abY g cap _ i aQ w);rw[<-bz] at ai;have c1:w.cell? (Ot g (i * 2))=some (Ol x.code):=aj 0 _ rfl;rw[show M.codeOf i=x.code by simp[Mo.codeOf,ay]];clear h aj bz;go_enter func209,ntmps209;exact alX
end
section
variable (h:HP H R w M aA aC os cf) (ac:M.Small K) (A:K<=1000000000)
include h ac A
theorem get_any (o:Int)(nm:OH) :
  OE 124 #[hP H,Ol o,OB nm] w fun e w'=>e=OQ (.tuple #[aos (M.prop o nm),OC (M.prop o nm).isSome])/\OD w w':=by
 obtain⟨h0,h1,aH,hb,hl⟩:=h.c;have e2:OD w (w.alloc vZ):=PO;obtain⟨q,r,aO,eB,aa⟩:=aoh (h.later e2) ac A o nm;unfold vZ at aO eB;unfold hP;clear h
 rcases aa with ⟨rfl,al⟩|⟨i,x,k,c,g,cap,rfl,_,_,_,al,rfl,_,a1⟩
 ·rw[al];clear al;go_enter func124,ntmps124;have z:=Oq (∀{G}(h:G:=by
  have z:=Oq (∀{G}(h:G:=by
  go_wp2_with fail;refine bodyPost_ret (v:=.tuple #[aor,OC false]) (by simp[results,results124,go_sem,aor,dn,bR,c7]) rfl ⟨rfl,?_⟩;exact below3 bL O6 _ _ _),G);exact aov),G);exact aiK
 ·rw[al];clear al;have fB:=hide a1;clear a1;go_enter func124,ntmps124;have z:=Oq (∀{G}(h:G:=by
  obtain⟨bY,dI,_⟩:=fB.out w1 D;have eq:=bY 1 _ rfl;have hz:=bY 2 _ rfl;have jJ:=bY 3 _ rfl;have z:=Oq (∀{G}(h:G:=by
  clear bY;go_wp2_with fail;refine bodyPost_ret (v:=.tuple #[aos (some c),OC true]) (by simp[results,results124,go_sem,aos,dn,bR,c7]) rfl ⟨rfl,?_⟩;exact below3 bL O6 _ _ _),G);exact aov),G);exact aiK
theorem ZC (s:Int)(nm:OH) :
  OE 353 #[hP H,Ol s,OB nm] w fun e w'=>e=OQ (Ol (M.kindOf s nm))/\OD w w':=by
 obtain⟨h0,h1,aH,hb,hl⟩:=h.c;obtain⟨q,r,aO,eB,aa⟩:=YR h ac A s nm;unfold hP Mo.kindOf;clear h
 rcases aa with ⟨rfl,al⟩|⟨i,x,k,c,g,cap,rfl,_,_,_,al,rfl,_,a1⟩
 ·rw[al];clear al;go_enter func353,ntmps353;exact aAF
 ·rw[al];clear al;have fB:=hide a1;clear a1;go_enter func353,ntmps353;have z:=Oq (∀{G}(h:G:=by
  obtain⟨bY,dI,_⟩:=fB.out w1 D;have lc:=bY 4 _ rfl;have bL:=D;clear bY;go_wp2;go_ret;exact⟨rfl,bL⟩),G);exact aiK
theorem aow (o:Int)(nm:OH)(al:M.prop o nm=none) :
  OE 124 #[OM H 0,Ol o,OB nm] w fun e w'=>e=OQ (.tuple #[.agg #[Ol 0,Ol 0,PN],OC false])/\OD w w':=by
 have:=get_any h ac A o nm;rw[al] at this;exact this
theorem akn (o:Int)(nm:OH){p:Pr}(al:M.prop o nm=some p) :
  OE 124 #[OM H 0,Ol o,OB nm] w fun e w'=>e=OQ (.tuple #[.agg #[Ol p.v.k,Ol p.v.n,OB p.v.s],OC true])/\OD w w':=by
 have:=get_any h ac A o nm;rw[al] at this;exact this
theorem Yz (s:Int)(nm:OH) :
  OE 55 #[OM H 0,Ol s,OB nm] w fun e w'=>e=OQ (OC (M.has s nm))/\OD w w':=by
 obtain⟨h0,h1,aH,hb,hl⟩:=h.c;obtain⟨q,r,aO,eB,aa⟩:=YR h ac A s nm;unfold Mo.has
 rcases aa with ⟨rfl,al⟩|⟨i,x,k,c,g,cap,rfl,_,_,_,al,rfl,_,a1⟩
 ·rw[al];clear al;have z:=Oq (∀{G}(h:G:=by
  rw[<-oZ];clear oZ
  cases ag:M.prop oo nm with
  | none=>
   have gZ:Hid (∀ w1,OD w w1->_):=fun w1 D=>aow (h.later D) ac A oo nm ag;exact aAG
  | some p=>
   have gZ:Hid (∀ w1,OD w w1->_):=fun w1 D=>akn (h.later D) ac A oo nm ag;exact aAG),G);exact av7
 ·rw[al];clear al a1;go_enter func55,ntmps55;exact aAF
end
inductive Mo.Finds (M:Mo) (nm:OH):Int->Int->Prop where
 | out (i:Int) (h:M.ro i=none):Mo.Finds M nm i (-1)
 | here (i:Nat) (x:Ro) (h:M.OI[i]? = some x) (hh:M.has i nm=true):Mo.Finds M nm i i
 | on (i:Nat) (x:Ro) (r:Int) (h:M.OI[i]? = some x) (hh:M.has i nm=false) (aR:x.outer<i) (aa:Mo.Finds M nm x.outer r):Mo.Finds M nm i r
def aox {M:Mo}{i:Nat}{x:Ro}(h:M.OI[i]? = some x):M.ro i=some x:=by simp[Mo.ro,h]
def av8 {M:Mo}{i:Nat}{x:Ob}(h:M.objs[i]? = some x):M.ob i=some x:=by simp[Mo.ob,h]
def aom (h:HP H R w M aA aC os cf)(i:Nat)(x:Ro)(am:M.OI[i]? = some x):∃ a:Addr,OE 122 #[aC,Ol (i:Int)] w fun e w'=>e=OQ (.pointer (some a))/\w'=w:=by
 obtain⟨g,cap,v,bz,aQ,av,aj,hrow,hg,a8,aH,_⟩:=h.ro.at_ (i:=i) (e:=x.h) (by simp[am]);have ai:=aal g cap _ i aQ w;rw[<-bz] at ai;exact⟨_,ai⟩
def aoy (h:HP H R w M aA aC os cf)(ac:M.Small K)(A:K<=1000000000)(i r:Int)(nm:OH)(aH:M.Finds nm i r) :
  OE 195 #[OM H 0,Ol i,OB nm] w fun e w'=>e=OQ (Ol r)/\OD w w':=by
 have il:=h;clear h;go_enter func195,ntmps195;go_wp2_with fail
 go_loopw [1] (fun hk wr=>∃ j:Int,hk=Ol j/\M.Finds nm j r/\OD w wr) (fun hk _=>(intOf hk+1).toNat)
 case atStart=>exact⟨i,rfl,aH,QX⟩
 case round=>
  obtain⟨j,rfl,AJ,D⟩:=hrel;have r0:=(il.later D);obtain⟨h0,h1,_,_,hl⟩:=r0.c
  cases AJ with
  | out _ aR=>
   have hout:j<0\/(M.OI.length:Int)<=j:=by
    rcases P7 M j with ⟨_,h⟩|⟨i,x,rfl,_,h⟩
    ·exact h
    ·rw[aR] at h;cases h
   have ai:=(XD aC _ (Qs r0.ro.row) j (by simpa using hout) wr);clear hout aR;have z:=Oq (∀{G}(h:G:=by
   go_ret;exact⟨rfl,D⟩),G);exact aeE
  | here k x E hh=>
   obtain⟨a,aj⟩:=aom r0 k x E;have ai:=aj;have a':=(Yz r0 ac A k nm);rw[hh] at a';clear hh E;have z:=Oq (∀{G}(h:G:=by
   refine cm a' ?_;rintro e w2 ⟨rfl,aF⟩;have cq:=(D.trans (aF.mono D.size));go_wp2;go_ret;exact⟨rfl,cq⟩),G);exact aeE
  | on k x _ E hh aR aa=>
   obtain⟨a,aj⟩:=aom r0 k x E;have ai:=aj;have a':=(Yz r0 ac A k nm);rw[hh] at a';have dw:=hide (fun W a1=>adP (r0.later (w':=W) a1) k);rw[show M.outOf k=x.outer by simp[Mo.outOf,aox E]] at dw;unfold hP at dw;have GC:=hide aR;clear hh E aR;have z:=Oq (∀{G}(h:G:=by
   refine cm a' ?_;rintro e w2 ⟨rfl,aF⟩;have pt:=(dw.out w2 aF);have cq:=(D.trans (aF.mono D.size));go_wp2_with fail;refine cm pt ?_;rintro e ap ⟨rfl,rfl⟩;go_wp2
   go_roundw
   case rel=>exact⟨x.outer,rfl,aa,cq⟩
   case measure=>
    have:=GC.out;simp[intOf];omega),G);exact aeE
def Ur (e:Int):OG:=if e=0 then .nilIface else .iface 34 (Ol e)
def aAH {w1:Ov}{b:Nat}{fh cp dG a c d:OG}(o:Obj)(dn:w1.cell? (Ot b 0)=some fh)(bR:w1.cell? (Ot b 1)=some cp)(c7:w1.cell? (Ot b 2)=some dG)(nl:b<w1.heap.size) :
  ((((w1.setCell (Ot b 0) a).setCell (Ot b 1) c).setCell (Ot b 2) d).alloc o).cell? (Ot b 0)=some a/\((((w1.setCell (Ot b 0) a).setCell (Ot b 1) c).setCell (Ot b 2) d).alloc o).cell? (Ot b 1)=some c/\((((w1.setCell (Ot b 0) a).setCell (Ot b 1) c).setCell (Ot b 2) d).alloc o).cell? (Ot b 2)=some d:=by
 have aI:b<(((w1.setCell (Ot b 0) a).setCell (Ot b 1) c).setCell (Ot b 2) d).heap.size:=by simpa using nl
 refine⟨?_,?_,?_⟩
 all_goals
  rw[World.cell?_alloc_past _ _ _ (by exact aI)];go_simp
section
variable (h:HP H R w M aA aC os cf) (ac:M.Small K) (A:K<=1000000000)
include h ac A
theorem aoz (o:Int)(nm:OH)(al:M.prop o nm=none) :
  OE 313 #[OM H 0,Ol o,OB nm] w fun e w'=>e=OQ (.tuple #[.agg #[Ol 0,Ol 0,PN],.iface 34 (Ol 7)])/\OD w w':=by
 have e2:OD w (w.alloc vZ):=PO;have gZ:=(aow (h.later e2) ac A o nm al);unfold vZ at gZ;clear h al;go_enter func313,ntmps313;go_wp2_with fail;refine cm gZ ?_;rintro e w1 ⟨rfl,D⟩;have z:=Oq (∀{G}(h:G:=by
 go_wp2_with fail;obtain⟨cH,bU,cg⟩:=aAH (a:=Ol 0) (c:=Ol 0) (d:=PN) (.cells #[Ol 0,Ol 0,PN] 65) dn bR c7 nl;refine bodyPost_ret (v:=.tuple #[.agg #[Ol 0,Ol 0,PN],.iface 34 (Ol 7)]) (by simp[results,results313,go_sem,cH,bU,cg]) rfl ⟨rfl,?_⟩;exact(below3 bL O6 _ _ _).alloc (by simpa using O0 nl) _),G);exact aov
theorem alY (o:Int)(nm:OH){p:Pr}(al:M.prop o nm=some p) :
  OE 313 #[OM H 0,Ol o,OB nm] w fun e w'=>e=OQ (.tuple #[.agg #[Ol p.v.k,Ol p.v.n,OB p.v.s],Qp])/\OD w w':=by
 have e2:OD w (w.alloc vZ):=PO;have gZ:=(akn (h.later e2) ac A o nm al);unfold vZ at gZ;clear h al;go_enter func313,ntmps313;go_wp2_with fail;refine cm gZ ?_;rintro e w1 ⟨rfl,D⟩;have z:=Oq (∀{G}(h:G:=by
 go_wp2_with fail;obtain⟨cH,bU,cg⟩:=aAH (a:=Ol p.v.k) (c:=Ol p.v.n) (d:=OB p.v.s) (.cells #[Ol p.v.k,Ol p.v.n,OB p.v.s] 65) dn bR c7 nl;refine bodyPost_ret (v:=.tuple #[.agg #[Ol p.v.k,Ol p.v.n,OB p.v.s],Qp]) (by simp[results,results313,go_sem,cH,bU,cg]) rfl ⟨rfl,?_⟩;exact(below3 bL O6 _ _ _).alloc (by simpa using O0 nl) _),G);exact aov
theorem adQ (s:Int)(nm:OH)(aj:M.Y3 s nm=none)(V:OG)(n m:Int)(bD:OH)(fZ:V=.agg #[Ol n,Ol m,OB bD])(X:OG)(cE:∀ W,OD w W->OE 313 #[OM H 0,Ol (M.RD s),OB nm] W fun e w'=>e=OQ (.tuple #[V,X])/\OD W w') :
  OE 290 #[OM H 0,Ol s,OB nm] w fun e w'=>e=OQ (.tuple #[V,X])/\OD w w':=by
 obtain⟨h0,h1,aH,hb,hl⟩:=h.c;have e2:OD w (w.alloc vZ):=PO;obtain⟨q,r,aO,eB,aa⟩:=YR (h.later e2) ac A s nm;have z:=Oq (∀{G}(h:G:=by
 rw[<-oZ] at cE;have dj:=hide cE;unfold vZ at aO eB;clear h cE oZ
 rcases aa with ⟨rfl,al⟩|⟨i,x,k,c,g,cap,rfl,_,_,_,al,rfl,_,a1⟩
 ·clear al aj;subst fZ;go_enter func290,ntmps290;have z:=Oq (∀{G}(h:G:=by
  have bL:=(((Below.refl _ w).alloc O6 _).trans (D.mono O8));obtain⟨dn,bR,c7,fw,nl⟩:=YK (D.mono O8);have eh:Hid (∀ w2,OD w1 w2->Below (w.heap.size+1) (w.alloc (.cells #[Ol 0,Ol 0,PN] 65)) w2):=fun w2 aF=>(D.mono O8).trans (aF.mono Ou);clear dn bR c7 fw;go_wp2_with fail;refine cm (dw.out w1 bL) ?_;rintro e w2 ⟨rfl,rfl⟩;go_wp2_with fail;refine cm (dj.out _ bL) ?_;rintro e ap ⟨rfl,br⟩;obtain⟨dn,bR,c7,fw,NU⟩:=YK (eh.out ap br);have d3:=(bL.trans (br.mono bL.size));go_wp2_with fail
  refine bodyPost_ret (v:=.tuple #[.agg #[Ol n,Ol m,OB bD],X]) (by simp[results,results290,go_sem,dn,bR,c7]) rfl ⟨rfl,?_⟩;exact below3 d3 O6 _ _ _),G);exact aiK
 ·rw[aj] at al;cases al),G);exact av7
theorem aoA (s:Int)(nm:OH){c:Ce}(aj:M.Y3 s nm=some c) :
  OE 290 #[OM H 0,Ol s,OB nm] w fun e w'=>e=OQ (if c.ready then .tuple #[.agg #[Ol c.v.k,Ol c.v.n,OB c.v.s],Qp] else .tuple #[.agg #[Ol 0,Ol 0,PN],.iface 34 (Ol 6)])/\OD w w':=by
 obtain⟨h0,h1,aH,hb,hl⟩:=h.c;have e2:OD w (w.alloc vZ):=PO;obtain⟨q,r,aO,eB,aa⟩:=YR (h.later e2) ac A s nm;unfold vZ at aO eB;clear h
 rcases aa with ⟨rfl,al⟩|⟨i,x,k,en,g,cap,rfl,_,_,_,al,rfl,_,a1⟩
 ·rw[aj] at al;cases al
 ·rw[aj] at al;cases al;clear aj;have fB:=hide a1;clear a1
  cases ba:c.ready
  all_goals
   go_enter func290,ntmps290;go_wp2_with fail;refine cm aO ?_;rintro e w' ⟨rfl,rfl⟩;go_wp2_with fail;refine cm eB ?_;rintro e w1 ⟨rfl,D⟩;obtain⟨bY,dI,_⟩:=fB.out w1 D;have eq:=bY 1 _ rfl;have hz:=bY 2 _ rfl;have jJ:=bY 3 _ rfl;have nP:=bY 5 _ rfl;rw[ba] at nP;obtain⟨dn,bR,c7,fw,nl⟩:=YK (D.mono O8);have bL:=(((Below.refl _ w).alloc O6 _).trans (D.mono O8));clear bY;go_wp2_with fail
  ·refine bodyPost_ret (v:=.tuple #[.agg #[Ol 0,Ol 0,PN],.iface 34 (Ol 6)]) (by simp[results,results290,go_sem,dn,bR,c7]) rfl ⟨rfl,?_⟩;exact below3 bL O6 _ _ _
  ·refine bodyPost_ret (v:=.tuple #[.agg #[Ol c.v.k,Ol c.v.n,OB c.v.s],Qp]) (by simp[results,results290,go_sem,dn,bR,c7]) rfl ⟨rfl,?_⟩;exact below3 bL O6 _ _ _
end
end
def Th:List TypeId:=[84,185,207,198,262]
def Mo.TN (M:Mo)(i:Nat)(x:Ob):Mo:=⟨M.objs.set i x,M.OI⟩
def Mo.RZ (M:Mo)(i:Nat)(x:Ro):Mo:=⟨M.objs,M.OI.set i x⟩
def OJ {a b c:Ov}{r:Option Nat}(h:a.grownBy b r)(k:b.grownBy c r):a.grownBy c r:=
 ⟨k.os.trans h.os,k.tape.trans h.tape,k.output.trans h.output,Nat.le_trans h.size k.size,fun j aN aa=>(k.block j (Nat.lt_of_lt_of_le aN h.size) aa).trans (h.block j aN aa)⟩
section
variable {H:Nat} {R:List OG} {w w1:Ov} {M:Mo} {aA aC:OG} {os cf:List OG}
def HP.ob1 (h:HP H R w M aA aC os cf){objs:List Ob}{pW:List OG}(bc:Tb H 185 2 207 5 w1 aA (objs.map Ob.h) pW)(f:Py [185,207] H w w1):HP H R w1 ⟨objs,M.OI⟩ aA aC pW cf/\Py Th H w w1:=
 ⟨⟨f.rest H _ 84 h.blk Oz,bc,h.ro.keep f Oz Oz⟩,f.mono Oz O6⟩
def HP.ro1 (h:HP H R w M aA aC os cf){OI:List Ro}{mI:List OG}(bc:Tb H 198 3 262 6 w1 aC (OI.map Ro.h) mI)(f:Py [198,262] H w w1):HP H R w1 ⟨M.objs,OI⟩ aA aC os mI/\Py Th H w w1:=
 ⟨⟨f.rest H _ 84 h.blk Oz,h.ob.keep f Oz Oz,bc⟩,f.mono Oz O6⟩
def auy:∀ (bs:List Pr) (k:Nat) (b:Pr) (n:Va),bs[k]? = some b ->
  (((bs.flatMap Pr.h).set (k * 5+1) (Ol n.k)).set (k * 5+2) (Ol n.n)).set (k * 5+3) (OB n.s)=(bs.set k ⟨b.name,n,b.fixed⟩).flatMap Pr.h
 | [],k,b,n,h=>by simp at h
 | c::bs,0,b,n,h=>by
  simp at h;subst h;simp[Pr.h]
 | c::bs,k+1,b,n,h=>by
  have:=auy bs k b n (by simpa using h);have e:∀ j,(k+1) * 5+j=k * 5+j+1+1+1+1+1:=fun j=>by omega
  simp only[e,List.set_cons_succ,List.flatMap_cons,Pr.h,List.cons_append,List.nil_append] at this ⊢;rw[this]
def auz:∀ (bs:List Ce) (k:Nat) (b:Ce) (n:Va),bs[k]? = some b ->
  (((bs.flatMap Ce.h).set (k * 6+1) (Ol n.k)).set (k * 6+2) (Ol n.n)).set (k * 6+3) (OB n.s)=(bs.set k ⟨b.name,n,b.kind,b.ready⟩).flatMap Ce.h
 | [],k,b,n,h=>by simp at h
 | c::bs,0,b,n,h=>by
  simp at h;subst h;simp[Ce.h]
 | c::bs,k+1,b,n,h=>by
  have:=auz bs k b n (by simpa using h);have e:∀ j,(k+1) * 6+j=k * 6+j+1+1+1+1+1+1:=fun j=>by omega
  simp only[e,List.set_cons_succ,List.flatMap_cons,Ce.h,List.cons_append,List.nil_append] at this ⊢;rw[this]
def aoB:∀ (bs:List Ce) (k:Nat) (b:Ce) (n:Va) (r:Bool),bs[k]? = some b ->
  ((((bs.flatMap Ce.h).set (k * 6+1) (Ol n.k)).set (k * 6+2) (Ol n.n)).set (k * 6+3) (OB n.s)).set (k * 6+5) (OC r)=(bs.set k ⟨b.name,n,b.kind,r⟩).flatMap Ce.h
 | [],k,b,n,r,h=>by simp at h
 | c::bs,0,b,n,r,h=>by
  simp at h;subst h;simp[Ce.h]
 | c::bs,k+1,b,n,r,h=>by
  have:=aoB bs k b n r (by simpa using h);have e:∀ j,(k+1) * 6+j=k * 6+j+1+1+1+1+1+1:=fun j=>by omega
  simp only[e,List.set_cons_succ,List.flatMap_cons,Ce.h,List.cons_append,List.nil_append] at this ⊢;rw[this]
def HP.aGy (h:HP H R w M aA aC os cf){i:Nat}{x:Ob}(am:M.objs[i]? = some x){g cap m:Nat}(av:os[i]? = some (.slice (some (Ot g 0)) m cap)){k:Nat}{b:Pr}(D:x.ps[k]? = some b)(n:Va) :
  HP H R (((w.setCell (Ot g (k * 5+1)) (Ol n.k)).setCell (Ot g (k * 5+2)) (Ol n.n)).setCell (Ot g (k * 5+3)) (OB n.s)) (M.TN i ⟨x.code,x.ps.set k ⟨b.name,n,b.fixed⟩⟩) aA aC os cf /\
  Py Th H w (((w.setCell (Ot g (k * 5+1)) (Ol n.k)).setCell (Ot g (k * 5+2)) (Ol n.n)).setCell (Ot g (k * 5+3)) (OB n.s)):=by
 have oR:(M.objs.map Ob.h)[i]? = some x.h:=by simp[am]
 have hrow:w.ownsRow H 207 5 _ x.ps.length (x.ps.flatMap Pr.h):=h.ob.own i x.h _ oR av;obtain⟨g2,cap',hS,_⟩:=atP hrow D;simp only[Value.slice.injEq,Option.some.injEq,Addr.mk.injEq,and_true] at hS;obtain⟨rfl,rfl,rfl⟩:=hS;obtain⟨bU,b4⟩:=hrow.stored (k * 5+1) (Ol n.k);obtain⟨cg,bT⟩:=bU.stored (k * 5+2) (Ol n.n);obtain⟨eE,eg⟩:=cg.stored (k * 5+3) (OB n.s);rw[auy x.ps k b n D] at eE;have aI:=h.ob.bump (O0 (lt_of_block h.blk)) oR av (OJ (OJ b4 bT) eg) eE
 refine h.ob1 (objs:=M.objs.set i ⟨x.code,x.ps.set k ⟨b.name,n,b.fixed⟩⟩) ?_ (aI.2.mono Oz O6);rw[List.map_set];have:=aI.1;simpa[Ob.h] using this
section
variable (h:HP H R w M aA aC os cf) {i:Nat} {x:Ro} (am:M.OI[i]? = some x) {g cap m:Nat} (av:cf[i]? = some (.slice (some (Ot g 0)) m cap)) {k:Nat} {b:Ce} (D:x.cs[k]? = some b) (n:Va)
include h i x am g cap m av k b D n
theorem HP.aGz :
  HP H R (((w.setCell (Ot g (k * 6+1)) (Ol n.k)).setCell (Ot g (k * 6+2)) (Ol n.n)).setCell (Ot g (k * 6+3)) (OB n.s)) (M.RZ i ⟨x.outer,x.object,x.cs.set k ⟨b.name,n,b.kind,b.ready⟩⟩) aA aC os cf /\
  Py Th H w (((w.setCell (Ot g (k * 6+1)) (Ol n.k)).setCell (Ot g (k * 6+2)) (Ol n.n)).setCell (Ot g (k * 6+3)) (OB n.s)):=by
 have z:=Oq (∀{G}(h:G:=by
 rw[auz x.cs k b n D] at eE;have aI:=h.ro.bump (O0 (lt_of_block h.blk)) oR av (OJ (OJ b4 bT) eg) eE;refine h.ro1 (OI:=M.OI.set i ⟨x.outer,x.object,x.cs.set k ⟨b.name,n,b.kind,b.ready⟩⟩) ?_ (aI.2.mono Oz O6);rw[List.map_set];have:=aI.1;simpa[Ro.h] using this),G);exact aAI
theorem HP.aAJ (r:Bool) :
  HP H R ((((w.setCell (Ot g (k * 6+1)) (Ol n.k)).setCell (Ot g (k * 6+2)) (Ol n.n)).setCell (Ot g (k * 6+3)) (OB n.s)).setCell (Ot g (k * 6+5)) (OC r)) (M.RZ i ⟨x.outer,x.object,x.cs.set k ⟨b.name,n,b.kind,r⟩⟩) aA aC os cf /\
  Py Th H w ((((w.setCell (Ot g (k * 6+1)) (Ol n.k)).setCell (Ot g (k * 6+2)) (Ol n.n)).setCell (Ot g (k * 6+3)) (OB n.s)).setCell (Ot g (k * 6+5)) (OC r)):=by
 have z:=Oq (∀{G}(h:G:=by
 obtain⟨lA,lz⟩:=eE.stored (k * 6+5) (OC r);rw[aoB x.cs k b n r D] at lA;have aI:=h.ro.bump (O0 (lt_of_block h.blk)) oR av (OJ (OJ (OJ b4 bT) eg) lz) lA;refine h.ro1 (OI:=M.OI.set i ⟨x.outer,x.object,x.cs.set k ⟨b.name,n,b.kind,r⟩⟩) ?_ (aI.2.mono Oz O6);rw[List.map_set];have:=aI.1;simpa[Ro.h] using this),G);exact aAI
end
variable {K:Nat}
abbrev vA (n:Va):OG:=.agg #[Ol n.k,Ol n.n,OB n.s]
abbrev vO (n:Va):Obj:=.cells #[Ol n.k,Ol n.n,OB n.s] 65
def aiO (h:HP H R w M aA aC os cf)(ac:M.Small K)(A:K<=1000000000)(s:Int)(nm:OH)(n:Va)(aj:M.Y3 s nm=none) :
  OE 198 #[OM H 0,Ol s,OB nm,.agg #[Ol n.k,Ol n.n,OB n.s]] w fun e w'=>e=OQ (.iface 34 (Ol 7))/\OD w w':=by
 have z:=Oq (∀{G}(h:G:=by
 obtain⟨q,r,aO,eB,aa⟩:=YR (h.later e2) ac A s nm;unfold vO at aO eB;clear h
 rcases aa with ⟨rfl,al⟩|⟨i,x,k,en,g,cap,rfl,_,_,_,al,rfl,_,a1⟩
 ·clear al aj;go_enter func198,ntmps198;exact aAu
 ·rw[aj] at al;cases al),G);exact alZ
def agF {g i cap:Nat}{x:Ro}(h:HP H R w M aA aC os cf)(am:M.OI[i]? = some x)(av:cf[i]? = some (.slice (some (Ot g 0)) x.cs.length cap)):∃ c,w.heap[g]? = some (O1 c 262):=
 Qc (h.ro.own i x.h _ (by simp[am]) av) rfl
def aiP (h:HP H R w M aA aC os cf)(ac:M.Small K)(A:K<=1000000000)(i:Nat)(x:Ro)(am:M.OI[i]? = some x)(nm:OH)(n:Va)(k:Nat)(c:Ce)(E:fC nm x.cs=some k)(aj:x.cs[k]? = some c) :
  OE 198 #[OM H 0,Ol (i:Int),OB nm,.agg #[Ol n.k,Ol n.n,OB n.s]] w fun e w'=>e=OQ Qp/\HP H R w' (M.RZ i ⟨x.outer,x.object,x.cs.set k ⟨c.name,n,c.kind,true⟩⟩) aA aC os cf/\Py Th H w w':=by
 have z:=Oq (∀{G}(h:G:=by
 obtain⟨q,r,aO,eB,aa⟩:=YR (h.later e2) ac A i nm;unfold vO at aO eB;have lR:M.Y3 i nm=some c:=aAK
 rcases aa with ⟨rfl,al⟩|⟨hk,x',lx,en,g,cap,ay,bz,ez,hH,al,rfl,av,a1⟩
 ·rw[lR] at al;cases al
 ·obtain rfl:i=hk:=Ou;rw[am] at bz;cases bz;rw[E] at ez;cases ez;rw[aj] at hH;cases hH;obtain⟨m3,ju⟩:=agF (h.later e2) am av;have rh:g≠w.heap.size:=QK ju (heap_alloc_new w _) Oz;have fB:=hide a1;have bJ:=hide av;have gD:=hide am;have gf:=hide aj;clear a1 av al lR ay E am aj ju;go_enter func198,ntmps198;go_wp2_with fail;refine cm aO ?_;rintro e w' ⟨rfl,rfl⟩;go_wp2_with fail;refine cm eB ?_;rintro e w1 ⟨rfl,D⟩;obtain⟨bY,dI,kl⟩:=fB.out w1 D;have eq:=bY 1 _ rfl;have hz:=bY 2 _ rfl;have jJ:=bY 3 _ rfl
  have nP:=bY 5 _ rfl;obtain⟨dn,bR,c7,fw,nl⟩:=YK (D.mono O8);have dW:=hide (((h.later e2).later D).aAJ gD.out bJ.out gf.out n true);have bL:=(((Below.refl _ w).alloc O6 _).trans (D.mono O8));clear bY;go_wp2;go_ret;exact⟨rfl,dW.out.1,(Py.of bL (O0 hl)).trans dW.out.2⟩),G);exact alZ
def akj:(prog.info? 207).map (fun i=>(i.zero,i.size,i.bytes))=some (some (.agg #[PN,Ol 0,Ol 0,PN,OC false]),5,56):=by kernel_rfl
def aiQ (w:Ov)(H:Nat)(fs:w.heap.size=H)(x:OH)(b:Va)(r:Bool)(j:Nat)(u:OG)(h:([OB x,Ol b.k,Ol b.n,OB b.s,OC r]:List OG)[j]? = some u) :
  (w.alloc (.cells #[OB x,Ol b.k,Ol b.n,OB b.s,OC r] 207)).cell? (Addr.add (Ot H 0) j)=some u:=by
 subst fs
 match j,h with
 | 0,h=>simp at h;subst h;simp[Addr.add]
 | 1,h=>simp at h;subst h;simp[Addr.add]
 | 2,h=>simp at h;subst h;simp[Addr.add]
 | 3,h=>simp at h;subst h;simp[Addr.add]
 | 4,h=>simp at h;subst h;simp[Addr.add]
 | k+5,h=>simp at h
def aoC (x:OH)(b:Va)(r:Bool):∀ u ∈ ([OB x,Ol b.k,Ol b.n,OB b.s,OC r]:List OG),u.oneCell'=true:=by
 intro u aT;simp at aT
 rcases aT with rfl|rfl|rfl|rfl|rfl <;> rfl
def HP.auw (h:HP H R w M aA aC os cf){i:Nat}{x x':Ob}(am:M.objs[i]? = some x){v v':OG}(av:os[i]? = some v){g cap:Nat}(aq:aA=.slice (some (Ot g 0)) (M.objs.map Ob.h).length cap)
  (dg:w.grownBy w1 v.ownBlock) (hown:w1.ownsRow H 207 5 v' x'.ps.length (x'.ps.flatMap Pr.h)) (iM:∀ q,v'.ownBlock=some q->v.ownBlock=some q\/w.heap.size<=q) (ae:x'.code=x.code) :
  HP H R (w1.setCell (Ot g (i * 2+1)) v') (M.TN i x') aA aC (os.set i v') cf/\Py Th H w (w1.setCell (Ot g (i * 2+1)) v'):=by
 have oR:(M.objs.map Ob.h)[i]? = some x.h:=by simp[am]
 have gd:=h.ob;rw[aq] at gd;have aI:=gd.put (O0 (lt_of_block h.blk)) oR av dg hown iM;rw[<-aq] at aI;refine h.ob1 (objs:=M.objs.set i x') ?_ aI.2;rw[List.map_set];have:=aI.1;rw[show x'.h=⟨x.h.hd,x'.ps.length,x'.ps.flatMap Pr.h⟩ by simp[Ob.h,ae]];exact this
def ar7 (h:HP H R w M aA aC os cf)(o:Int)(nm:OH)(n:Va)(fx:Bool)(aR:M.ob o=none) :
  OE 56 #[OM H 0,Ol o,OB nm,.agg #[Ol n.k,Ol n.n,OB n.s],OC fx] w fun e w'=>e=OQ (.iface 34 (Ol 7))/\OD w w':=by
 obtain⟨h0,h1,aH,hb,hl⟩:=h.c;have hout:o<0\/(M.objs.length:Int)<=o:=by
  rcases Rn M o with ⟨_,h⟩|⟨i,x,rfl,_,h⟩
  ·exact h
  ·rw[aR] at h;cases h
 have ai:=(Yx aA _ (Qs h.ob.row) o (by simpa using hout) (w.alloc (.cells #[Ol n.k,Ol n.n,OB n.s] 65)));clear h hout aR;go_enter func56,ntmps56;have z:=Oq (∀{G}(h:G:=by
 go_ret;exact⟨rfl,PO⟩),G);exact aoD
section
variable (h:HP H R w M aA aC os cf) (ac:M.Small K) (A:K<=1000000000) (i:Nat) (x:Ob) (am:M.objs[i]? = some x) (nm:OH) (n:Va) (fx:Bool)
include h ac A i x am nm n fx
theorem ako (k:Nat)(c:Pr)(E:fP nm x.ps=some k)(aj:x.ps[k]? = some c) :
  OE 56 #[OM H 0,Ol (i:Int),OB nm,.agg #[Ol n.k,Ol n.n,OB n.s],OC fx] w fun e w'=>e=OQ Qp/\HP H R w' (M.TN i ⟨x.code,x.ps.set k ⟨c.name,n,c.fixed⟩⟩) aA aC os cf/\Py Th H w w':=by
 have z:=Oq (∀{G}(h:G:=by
 have z:=Oq (∀{G}(h:G:=by
 obtain⟨iJ,m2,rfl,cM,_,_⟩:=atP hrow' aj;rw[E] at d4;simp only[aa0] at d4;unfold vO at ai d4;obtain⟨m3,ju⟩:=Qc hrow' rfl;have rh:iJ≠w.heap.size:=QK ju (heap_alloc_new w _) Oz;have bJ:=hide av;have gD:=hide am;have gf:=hide aj;clear dK E am aj h ju av bz;go_enter func56,ntmps56;have z:=Oq (∀{G}(h:G:=by
 refine cm d4 ?_;rintro e w1 ⟨rfl,D⟩;obtain⟨g2,cap',hS,_,⟨bY,dI,kl⟩,_⟩:=atP (Pe hrow' D) gf.out;have z:=Oq (∀{G}(h:G:=by
 have eq:=bY 1 _ rfl;have hz:=bY 2 _ rfl;have jJ:=bY 3 _ rfl;obtain⟨dn,bR,c7,fw,nl⟩:=YK (D.mono O8);have dW:=hide ((fs.later D).aGy gD.out bJ.out gf.out n);have bL:=(((Below.refl _ w).alloc O6 _).trans (D.mono O8));clear bY;go_wp2;go_ret;exact⟨rfl,dW.out.1,(Py.of bL (O0 hl)).trans dW.out.2⟩),G);exact agA),G);exact aoD),G);exact aAL),G);exact alZ
theorem ar8 (E:fP nm x.ps=none) :
  OE 56 #[OM H 0,Ol (i:Int),OB nm,.agg #[Ol n.k,Ol n.n,OB n.s],OC fx] w fun e w'=>e=OQ Qp/\(∃ pW,HP H R w' (M.TN i ⟨x.code,x.ps++[⟨nm,n,fx⟩]⟩) aA aC pW cf)/\Py Th H w w':=by
 have z:=Oq (∀{G}(h:G:=by
 have z:=Oq (∀{G}(h:G:=by
 rw[E,Yy] at d4;have mE:=ac.ps x (List.mem_of_getElem? am);unfold vO at ai d4;have bJ:=hide av;have gD:=hide am;have jX:=hide bz;have kc:=hide (dK 1 v rfl);have HLEN:=hide mE;obtain⟨lv,dR,dA,b9,cn⟩:=info_parts akj;clear dK E am h av bz mE;go_enter func56,ntmps56;have z:=Oq (∀{G}(h:G:=by
 refine cm d4 ?_;rintro e w1 ⟨rfl,D⟩;have z:=Oq (∀{G}(h:G:=by
 have gv:=(fs.later D);have qZ:=(Pe hrow' D);have dI:g<w1.heap.size:=Nat.lt_of_lt_of_le hg D.size;have f0:w1.cell? (Ot g (i * 2+1))=some v:=(cell_below D (a:=(Ot g (i * 2+1))) hg).trans kc.out;have hfz1:w1.frozen? (Ot g (i * 2+1))=false:=(World.frozen?_of_block (w:=w.alloc (vO n)) (a:=(Ot g (i * 2+1))) (D.block g hg)).trans (lj _);go_wp2_with fail;refine wp_region_any PK ?_;change wpAny _ _ _ _ _ _ _ (World.drew _);refine wt 0 (OM g (i * 2)) ?_;refine wt 1 (OM g (i * 2)) ?_;refine wt 2 (OM g (i * 2)) ?_
 refine wt 3 (OM g (i * 2+1)) ?_;refine wt 5 (OB nm) ?_;refine wt 7 (OC fx) ?_;refine wr2 4 6 (fun K A=>?ca) fun K A=>?cb
 case' ca=>
  go_simp;refine A _ _ ?_;clear A K;refine QV 6 fun K A=>?_;go_simp;refine A _ _ ?_;clear A K;refine wt 8 (.agg #[OB nm,Ol n.k,Ol n.n,OB n.s,OC fx]) ?_;refine QV 9 fun K A=>?_;go_simp;refine A _ _ ?_;clear A K
 case' cb=>
  go_simp;refine A _ _ ?_;clear A K;refine wt 8 (.agg #[OB nm,Ol n.k,Ol n.n,OB n.s,OC fx]) ?_;refine wr2 4 9 (fun K A=>?cc) fun K A=>?cd
 case' cc=>
  go_simp;refine A _ _ ?_;clear A K;refine QV 9 fun K A=>?_;go_simp;refine A _ _ ?_;clear A K
 case' cd=>
  go_simp;refine A _ _ ?_;clear A K;refine QV 4 fun K A=>?_;go_simp;refine A _ _ ?_;clear A K
 all_goals
  refine QV 10 fun K A=>?_;refine step_append_lies _ rfl _ _ 183 rfl H 207 lv _ 5 56 underlying183 dR dA b9 cn rfl Oz _ _ _ rfl (qZ.drew.alloc _) (Ot w1.heap.size 0) 1 1 [OB nm,Ol n.k,Ol n.n,OB n.s,OC fx] rfl rfl (aiQ _ _ rfl _ _ _) (aoC _ _ _) Oz (by have:=HLEN.out;unfold maxLen;omega) (by have:=HLEN.out;omega) Rh (w1.heap.size+1) O8 ?_
  intro hJ hG ap hown3 eY db _;refine A _ _ ?_;clear A K;have dg:w1.grownBy ap v.ownBlock:=OJ (OJ (b:=w1.drew) ⟨rfl,rfl,rfl,O6,fun _ _ _=>rfl⟩ (World.grownBy_alloc _ _ _)) eY;have aI:=gv.auw (x':=⟨x.code,x.ps++[⟨nm,n,fx⟩]⟩) gD.out bJ.out jX.out dg (v':=.slice (some (Ot hJ 0)) (x.ps.length+1) hG) (by rw[List.flatMap_append];simpa[Pr.h] using hown3) (fun q ag=>by cases ag;exact db.imp (fun e=>e) (fun e=>by rw[e];exact Nat.le_succ _)) rfl
  have dW:=hide aI;have ky:ap.cell? (Ot g (i * 2+1))=some v/\ap.frozen? (Ot g (i * 2+1))=false:=by
   have cl:some g≠v.ownBlock:=fun e=>by
    obtain⟨_,_,he⟩:=gv.ob.nes bJ.out;exact(he g e.symm).2.2.1 (by rw[jX.out];rfl)
   have hbk:=dg.block g dI cl;exact⟨(World.cell?_of_block (w:=w1) (a:=(Ot g (i * 2+1))) hbk).trans f0,(World.frozen?_of_block (w:=w1) (a:=(Ot g (i * 2+1))) hbk).trans hfz1⟩
  obtain⟨rD,rE⟩:=ky;clear aI db f0 hfz1 dn bR c7 fw;refine wt 11 (OM g (i * 2)) ?_;refine wt 12 (OM g (i * 2+1)) ?_;refine QV 13 fun K A=>?_;go_simp;refine A _ _ ?_;clear A K;refine wpAny_done PK ?_ _;go_simp;go_wp2;go_ret;exact⟨rfl,⟨_,dW.out.1⟩,(Py.of bL (O0 hl)).trans dW.out.2⟩),G);exact aov),G);exact aoD),G);exact aAL),G);exact alZ
end
def av9 {i:Nat}{x:Ro}(am:M.OI[i]? = some x){nm:OH}{k:Nat}{c:Ce}(E:fC nm x.cs=some k)(aj:x.cs[k]? = some c):M.Y3 i nm=some c:=aAK
def ar9 {i:Nat}{x:Ob}(am:M.objs[i]? = some x){nm:OH}{k:Nat}{c:Pr}(E:fP nm x.ps=some k)(aj:x.ps[k]? = some c):M.prop i nm=some c:=by
 rcases VW (fun c=>Z7 nm c.name) x.ps with ⟨d5,dX⟩|⟨lx,en,d5,dX,fU,_⟩
 ·rw[show fP nm x.ps=none from d5] at E;cases E
 ·rw[show fP nm x.ps=some lx from d5] at E;cases E;rw[aj] at dX;cases dX;simp[Mo.prop,av8 am,fU]
section
variable (h:HP H R w M aA aC os cf) (ac:M.Small K) (A:K<=1000000000) (s:Int) (nm:OH) (n:Va)
include h ac A s nm n
theorem aoE (hh:M.has s nm=false) :
  OE 267 #[OM H 0,Ol s,OB nm,.agg #[Ol n.k,Ol n.n,OB n.s]] w fun e w'=>e=OQ (.iface 34 (Ol 7))/\OD w w':=by
 have e2:OD w (w.alloc (vO n)):=PO;have a':=(Yz (h.later e2) ac A s nm);rw[hh] at a';unfold vO at a';clear hh;go_enter func267,ntmps267;go_wp2_with fail;refine cm a' ?_;exact aAM
theorem aiR (aj:M.Y3 s nm=none)(j:Nat)(x:Ob)(aN:M.RD s=j)(ae:M.objs[j]? = some x)(k:Nat)(p:Pr)(E:fP nm x.ps=some k)(al:x.ps[k]? = some p) :
  OE 267 #[OM H 0,Ol s,OB nm,.agg #[Ol n.k,Ol n.n,OB n.s]] w fun e w'=>e=OQ Qp/\HP H R w' (M.TN j ⟨x.code,x.ps.set k ⟨p.name,n,p.fixed⟩⟩) aA aC os cf/\Py Th H w w':=by
 have z:=Oq (∀{G}(h:G:=by
 have a':=(Yz (h.later e2) ac A s nm);rw[show M.has s nm=true by simp[Mo.has,aN,ar9 ae E al]] at a';have dw:Hid (∀ w1,OD w w1->OE 125 #[OM H 0,Ol s] w1 fun e w'=>e=OQ (Ol j)/\w'=w1):=fun w1 D=>by rw[<-aN];exact aam (h.later D) s
 have GQ:Hid (∀ w1,OD w w1->_):=fun w1 D=>ako (h.later D) ac A j x ae nm n false k p E al;have dU:Hid (∀ w1,OD w w1->_):=fun w1 D=>YR (h.later D) ac A s nm;have qU:=hide hl;have kc:=hide aj;have il:=h;unfold vO at a';clear h aj aN ae E al aH hb;have z:=Oq (∀{G}(h:G:=by
 obtain⟨ce,bQ,_,_,_⟩:=(il.later cC).c;have d':r=none:=by
  rcases aa with ⟨h,_⟩|⟨_,_,_,_,_,_,_,_,_,_,al,_⟩
  ·exact h
  ·rw[kc.out] at al;cases al
 subst d';obtain⟨dn,bR,c7,fw,nl⟩:=YK (D.mono O8);have eh:Hid (∀ w2,OD w1 w2->Below (w.heap.size+1) (w.alloc (.cells #[Ol n.k,Ol n.n,OB n.s] 65)) w2):=fun w2 aF=>(D.mono O8).trans (aF.mono Ou);have yS:Hid (∀ w2,OD w1 w2->w2.heap[w.heap.size]? = some (O1 #[Ol n.k,Ol n.n,OB n.s] 65)):=fun w2 aF=>((D.mono O8).trans (aF.mono (Nat.succ_le_of_lt nl)) |>.block _ (Nat.lt_succ_self _)).trans (heap_alloc_new w _);have eZ:=Nat.lt_of_lt_of_le hl cC.size;clear aa dn bR c7 fw;go_wp2_with fail;refine cm aO ?_;rintro e w' ⟨rfl,rfl⟩
 go_wp2_with fail;refine cm eB ?_;rintro e w2 ⟨rfl,aF⟩;have cq:=(cC.trans (aF.mono cC.size));obtain⟨dn,bR,c7,fw,yB⟩:=YK (eh.out w2 aF);have cn:w2.heap[w.heap.size]? = some (O1 #[Ol n.k,Ol n.n,OB n.s] 65):=yS.out w2 aF;have sf:=hide cn;clear ce bQ cn;go_wp2_with fail;refine wp_region_held (S:=fun W=>W.cell? (Ot w.heap.size 0)=some (Ol n.k)/\W.cell? (Ot w.heap.size 1)=some (Ol n.n)/\W.cell? (Ot w.heap.size 2)=some (OB n.s)) PK ?_;change wpAnyH _ _ _ _ _ _ _ _ (World.drew _)
 have e8:Hid (w2.drew.cell? (Ot w.heap.size 0)=some (Ol n.k)/\w2.drew.cell? (Ot w.heap.size 1)=some (Ol n.n)/\w2.drew.cell? (Ot w.heap.size 2)=some (OB n.s)):=⟨dn,bR,c7⟩;refine wh 0 (OM H 0) e8.out ?_;refine wh 1 (OM H 0) e8.out ?_;refine wh 2 (Ol s) e8.out ?_;refine wh 4 (OB nm) e8.out ?_;refine wg 5 (.agg #[Ol n.k,Ol n.n,OB n.s]) rfl (Or.inl ⟨by kernel_rfl,fun W a1=>by obtain⟨cG,b4,bT⟩:=a1;go_simp⟩) e8.out ?_
 refine XY 3 fun K A=>?_;go_simp;refine cm (dw.out _ cq.drew) ?_;rintro e ap ⟨rfl,rfl⟩;refine A.out _ _ e8.out (fun _=>?_);clear A K;refine XY 6 fun K A=>?_;go_simp;refine cm (GQ.out _ cq.drew) ?_;rintro e bA ⟨rfl,lT,h4⟩;have hU:=((Py.of cq.drew (O0 qU.out)).trans h4);have k8:Hid (bA.cell? (Ot w.heap.size 0)=some (Ol n.k)/\bA.cell? (Ot w.heap.size 1)=some (Ol n.n)/\bA.cell? (Ot w.heap.size 2)=some (OB n.s)):=by
  have aL:=h4.rest _ _ 65 sf.out Oz;refine⟨?_,?_,?_⟩ <;> simp[World.cell?,aL]
 refine A.out _ _ k8.out (fun _=>?_);clear A K h4;refine wh 7 Qp k8.out ?_;refine wpAnyH_done PK ?_ _;go_simp;go_wp2;go_ret;exact⟨rfl,lT,hU⟩),G);exact aAN),G);exact alZ
end
section
variable (h:HP H R w M aA aC os cf) (ac:M.Small K) (A:K<=1000000000) (i:Nat) (x:Ro) (am:M.OI[i]? = some x) (nm:OH) (n:Va) (k:Nat) (c:Ce) (E:fC nm x.cs=some k) (aj:x.cs[k]? = some c)
include h ac A i x am nm n k c E aj
theorem agG (aa:c.ready=false) :
  OE 267 #[OM H 0,Ol (i:Int),OB nm,.agg #[Ol n.k,Ol n.n,OB n.s]] w fun e w'=>e=OQ (.iface 34 (Ol 6))/\OD w w':=by
 have z:=Oq (∀{G}(h:G:=by
 rcases aa with ⟨_,al⟩|⟨hk,x',lx,en,g,cap,ay,bz,ez,hH,al,rfl,av,a1⟩
 ·rw[kc.out] at al;cases al
 obtain rfl:i=hk:=Ou;rw[gD.out] at bz;cases bz;rw[f5.out] at ez;cases ez;rw[gf.out] at hH;cases hH;have fB:=hide a1;have lY:w1.heap[w.heap.size]? = some (O1 #[Ol n.k,Ol n.n,OB n.s] 65):=(D.block _ O8).trans (heap_alloc_new w _);obtain⟨m3,ju⟩:=agF (h.later cC) gD.out av;have rh:g≠w.heap.size:=QK ju lY Oz;have eh:Hid (∀ w2,OD w1 w2->Below (w.heap.size+1) (w.alloc (.cells #[Ol n.k,Ol n.n,OB n.s] 65)) w2):=fun w2 aF=>(D.mono O8).trans (aF.mono (by have:=lt_of_block lY;omega))
 have eZ:=Nat.lt_of_lt_of_le hl cC.size;clear al a1 av lY ju ay;go_wp2_with fail;refine cm aO ?_;rintro e w' ⟨rfl,rfl⟩;go_wp2_with fail;refine cm eB ?_;rintro e w2 ⟨rfl,aF⟩;obtain⟨bY,dI,kl⟩:=fB.out w2 aF;have eq:=bY 1 _ rfl;have hz:=bY 2 _ rfl;have jJ:=bY 3 _ rfl;have lc:=bY 4 _ rfl;have nP:=bY 5 _ rfl;have cq:=(cC.trans (aF.mono cC.size));obtain⟨dn,bR,c7,fw,yB⟩:=YK (eh.out w2 aF);clear ce bQ bY;rw[aa] at nP;go_wp2;go_ret;exact⟨rfl,cq⟩),G);exact awc
theorem agH (aa:c.ready=true)(U:c.kind=2) :
  OE 267 #[OM H 0,Ol (i:Int),OB nm,.agg #[Ol n.k,Ol n.n,OB n.s]] w fun e w'=>e=OQ (.iface 34 (Ol 1))/\OD w w':=by
 have z:=Oq (∀{G}(h:G:=by
 rcases aa with ⟨_,al⟩|⟨hk,x',lx,en,g,cap,ay,bz,ez,hH,al,rfl,av,a1⟩
 ·rw[kc.out] at al;cases al
 obtain rfl:i=hk:=Ou;rw[gD.out] at bz;cases bz;rw[f5.out] at ez;cases ez;rw[gf.out] at hH;cases hH;have fB:=hide a1;have lY:w1.heap[w.heap.size]? = some (O1 #[Ol n.k,Ol n.n,OB n.s] 65):=(D.block _ O8).trans (heap_alloc_new w _);obtain⟨m3,ju⟩:=agF (h.later cC) gD.out av;have rh:g≠w.heap.size:=QK ju lY Oz;have eh:Hid (∀ w2,OD w1 w2->Below (w.heap.size+1) (w.alloc (.cells #[Ol n.k,Ol n.n,OB n.s] 65)) w2):=fun w2 aF=>(D.mono O8).trans (aF.mono (by have:=lt_of_block lY;omega))
 have eZ:=Nat.lt_of_lt_of_le hl cC.size;clear al a1 av lY ju ay;go_wp2_with fail;refine cm aO ?_;rintro e w' ⟨rfl,rfl⟩;go_wp2_with fail;refine cm eB ?_;rintro e w2 ⟨rfl,aF⟩;obtain⟨bY,dI,kl⟩:=fB.out w2 aF;have eq:=bY 1 _ rfl;have hz:=bY 2 _ rfl;have jJ:=bY 3 _ rfl;have lc:=bY 4 _ rfl;have nP:=bY 5 _ rfl;have cq:=(cC.trans (aF.mono cC.size));obtain⟨dn,bR,c7,fw,yB⟩:=YK (eh.out w2 aF);clear ce bQ bY;rw[aa] at nP;rw[U] at lc;go_wp2;go_ret;exact⟨rfl,cq⟩),G);exact awc
theorem al0 (aa:c.ready=true)(aw:c.kind=3) :
  OE 267 #[OM H 0,Ol (i:Int),OB nm,.agg #[Ol n.k,Ol n.n,OB n.s]] w fun e w'=>e=OQ (.iface 34 (Ol 5))/\OD w w':=by
 have z:=Oq (∀{G}(h:G:=by
 rcases aa with ⟨_,al⟩|⟨hk,x',lx,en,g,cap,ay,bz,ez,hH,al,rfl,av,a1⟩
 ·rw[kc.out] at al;cases al
 obtain rfl:i=hk:=Ou;rw[gD.out] at bz;cases bz;rw[f5.out] at ez;cases ez;rw[gf.out] at hH;cases hH;have fB:=hide a1;have lY:w1.heap[w.heap.size]? = some (O1 #[Ol n.k,Ol n.n,OB n.s] 65):=(D.block _ O8).trans (heap_alloc_new w _);obtain⟨m3,ju⟩:=agF (h.later cC) gD.out av;have rh:g≠w.heap.size:=QK ju lY Oz;have eh:Hid (∀ w2,OD w1 w2->Below (w.heap.size+1) (w.alloc (.cells #[Ol n.k,Ol n.n,OB n.s] 65)) w2):=fun w2 aF=>(D.mono O8).trans (aF.mono (by have:=lt_of_block lY;omega))
 have eZ:=Nat.lt_of_lt_of_le hl cC.size;clear al a1 av lY ju ay;go_wp2_with fail;refine cm aO ?_;rintro e w' ⟨rfl,rfl⟩;go_wp2_with fail;refine cm eB ?_;rintro e w2 ⟨rfl,aF⟩;obtain⟨bY,dI,kl⟩:=fB.out w2 aF;have eq:=bY 1 _ rfl;have hz:=bY 2 _ rfl;have jJ:=bY 3 _ rfl;have lc:=bY 4 _ rfl;have nP:=bY 5 _ rfl;have cq:=(cC.trans (aF.mono cC.size));obtain⟨dn,bR,c7,fw,yB⟩:=YK (eh.out w2 aF);clear ce bQ bY;rw[aa] at nP;rw[aw] at lc;go_wp2;go_ret;exact⟨rfl,cq⟩),G);exact awc
theorem aoF (aa:c.ready=true)(U:c.kind≠2)(aw:c.kind≠3) :
  OE 267 #[OM H 0,Ol (i:Int),OB nm,.agg #[Ol n.k,Ol n.n,OB n.s]] w fun e w'=>e=OQ Qp/\HP H R w' (M.RZ i ⟨x.outer,x.object,x.cs.set k ⟨c.name,n,c.kind,c.ready⟩⟩) aA aC os cf/\Py Th H w w':=by
 have z:=Oq (∀{G}(h:G:=by
 have bN:=Oq (∀{G}(h:G:=by
 have qU:=hide hl;unfold vO at a';clear aj am E lR aH hb;have z:=Oq (∀{G}(h:G:=by
 obtain⟨ce,bQ,_,_,_⟩:=(h.later cC).c
 rcases aa with ⟨_,al⟩|⟨hk,x',lx,en,g,cap,ay,bz,ez,hH,al,rfl,av,a1⟩
 ·rw[kc.out] at al;cases al
 obtain rfl:i=hk:=Ou;rw[gD.out] at bz;cases bz;rw[f5.out] at ez;cases ez;rw[gf.out] at hH;cases hH;have fB:=hide a1;have bJ:=hide av;have lY:w1.heap[w.heap.size]? = some (O1 #[Ol n.k,Ol n.n,OB n.s] 65):=(D.block _ O8).trans (heap_alloc_new w _);obtain⟨m3,ju⟩:=agF (h.later cC) gD.out av;have rh:g≠w.heap.size:=QK ju lY Oz;have eh:Hid (∀ w2,OD w1 w2->Below (w.heap.size+1) (w.alloc (.cells #[Ol n.k,Ol n.n,OB n.s] 65)) w2):=fun w2 aF=>(D.mono O8).trans (aF.mono (by have:=lt_of_block lY;omega))
 have eZ:=Nat.lt_of_lt_of_le hl cC.size;clear al a1 av lY ju ay;go_wp2_with fail;refine cm aO ?_;rintro e w' ⟨rfl,rfl⟩;go_wp2_with fail;refine cm eB ?_;rintro e w2 ⟨rfl,aF⟩;obtain⟨bY,dI,kl⟩:=fB.out w2 aF;have eq:=bY 1 _ rfl;have hz:=bY 2 _ rfl;have jJ:=bY 3 _ rfl;have lc:=bY 4 _ rfl;have nP:=bY 5 _ rfl;have cq:=(cC.trans (aF.mono cC.size));obtain⟨dn,bR,c7,fw,yB⟩:=YK (eh.out w2 aF);have dW:=hide ((h.later cq).aGz gD.out bJ.out gf.out n);clear ce bQ bY;rw[aa] at nP;go_wp2;go_ret
 exact⟨rfl,dW.out.1,(Py.of cq (O0 qU.out)).trans dW.out.2⟩),G);exact aAN),G);exact ztq),G);exact alZ
end
end
end Hp
end Go.Proofs.YticfnaiehdpbmaaGreatDoor
namespace Go.Proofs
open Go.Shelf
def Tryz.lays156_ren:Go.Shelf.Ren:=⟨fun|156=>318|165=>337|166=>282|169=>84|240=>240|241=>351|276=>288|277=>356|n=>n,fun|31=>26|9=>9|3=>3|4=>4|0=>0|20=>20|72=>171|76=>257|70=>169|37=>42|75=>31|127=>240|164=>127|5=>5|80=>175|n=>n,fun|n=>n⟩
def Tryz.lays156:Go.Proofs.Lays.n156 Tryz.prog Tryz.lays156_ren:={
 mixed:=by kernel_rfl
 f156:=Tryz.func318.trans (congrArg some (by kernel_rfl))
 f165:=Tryz.func337.trans (congrArg some (by kernel_rfl))
 f166:=Tryz.func282.trans (congrArg some (by kernel_rfl))
 f169:=Tryz.func84.trans (congrArg some (by kernel_rfl))
 f240:=Tryz.func240.trans (congrArg some (by kernel_rfl))
 f241:=Tryz.func351.trans (congrArg some (by kernel_rfl))
 f276:=Tryz.func288.trans (congrArg some (by kernel_rfl))
 f277:=Tryz.func356.trans (congrArg some (by kernel_rfl))
 t0:=Tryz.underlying0
 a0:=Tryz.isAgg0
 z0:=Tryz.sizeOf0
 v0:=Tryz.zeroValue0
 t3:=Tryz.underlying3
 a3:=Tryz.isAgg3
 z3:=Tryz.sizeOf3
 v3:=Tryz.zeroValue3
 t4:=Tryz.underlying4
 a4:=Tryz.isAgg4
 z4:=Tryz.sizeOf4
 v4:=Tryz.zeroValue4
 t9:=Tryz.underlying9
 a9:=Tryz.isAgg9
 z9:=Tryz.sizeOf9
 v9:=Tryz.zeroValue9
 t20:=Tryz.underlying20
 a20:=Tryz.isAgg20
 z20:=Tryz.sizeOf20
 v20:=Tryz.zeroValue20
 t31:=Tryz.underlying26
 a31:=Tryz.isAgg26
 z31:=Tryz.sizeOf26
 v31:=Tryz.zeroValue26
 t37:=Tryz.underlying42
 a37:=Tryz.isAgg42
 z37:=Tryz.sizeOf42
 v37:=Tryz.zeroValue42
 t70:=Tryz.underlying169
 a70:=Tryz.isAgg169
 z70:=Tryz.sizeOf169
 v70:=Tryz.zeroValue169
 t72:=Tryz.underlying171
 a72:=Tryz.isAgg171
 z72:=Tryz.sizeOf171
 v72:=Tryz.zeroValue171
 t75:=Tryz.underlying31
 a75:=Tryz.isAgg31
 z75:=Tryz.sizeOf31
 v75:=Tryz.zeroValue31
 t76:=Tryz.underlying257
 a76:=Tryz.isAgg257
 z76:=Tryz.sizeOf257
 v76:=Tryz.zeroValue257
 t127:=Tryz.underlying240
 a127:=Tryz.isAgg240
 z127:=Tryz.sizeOf240
 v127:=Tryz.zeroValue240
 t164:=Tryz.underlying127
 a164:=Tryz.isAgg127
 z164:=Tryz.sizeOf127
 v164:=Tryz.zeroValue127 }
def Tryz.Builder_Extra_156:Builder.Extra Tryz.prog Tryz.lays156_ren:={
 sizeBuilder:=by kernel_rfl
 liesBuilder:=by kernel_rfl
 t5:=Tryz.underlying5
 a5:=Tryz.isAgg5
 z5:=Tryz.sizeOf5
 v5:=Tryz.zeroValue5
 infoByte:=by kernel_rfl
 cellsByte:=by kernel_rfl
 sizeByte:=by kernel_rfl
 neB5:=by decide }
open Go.RowKit in
def Tryz.strings_Join_none (a:Option Addr)(c:Nat)(sep:ByteArray)(w:World) :
  Calls Tryz.prog 318 #[.slice a 0 c,.string sep] w fun e w'=>e=.returned (.string ⟨#[]⟩)/\w'=w:=Any.strings_Join_none Tryz.lays156 Tryz.Builder_Extra_156 a c sep w
open Go.RowKit in
def Tryz.strings_Join (bk o c:Nat)(xs:List ByteArray)(sep:ByteArray)(w:World)(hcells:∀ (j:Nat) x,xs[j]? = some x->w.cell? ⟨bk,o+j,none⟩=some (.string x))(hbk:bk<w.heap.size)(hN:xs.length<=140737488355328)(hcap:xs.length<=c)(hlen:(Lib.join (xs.map (·.data.toList)) sep.data.toList).length<=140737488355328) :
  Calls Tryz.prog 318 #[.slice (some ⟨bk,o,none⟩) xs.length c,.string sep] w fun e w'=>e=.returned (.string ⟨(Lib.join (xs.map (·.data.toList)) sep.data.toList).toArray⟩)/\Below w.heap.size w w':=Any.strings_Join Tryz.lays156 Tryz.Builder_Extra_156 bk o c xs sep w hcells hbk hN hcap hlen
def Tryz.laysM171_ren:Go.Shelf.Ren:=⟨fun|171=>133|243=>208|246=>271|283=>302|284=>303|285=>304|286=>305|129=>326|317=>325|318=>327|319=>328|320=>329|337=>343|338=>344|n=>n,fun|3=>3|9=>9|2=>2|4=>4|171=>319|0=>0|53=>320|37=>42|5=>5|173=>323|212=>341|51=>342|20=>20|213=>343|46=>87|232=>364|233=>365|n=>n,fun|17=>8|18=>11|19=>12|n=>n⟩
def Tryz.laysM171:Go.Proofs.LaysM.n171 Tryz.prog Tryz.laysM171_ren:={
 mixed:=by kernel_rfl
 f129:=Tryz.func326.trans (congrArg some (by kernel_rfl))
 f171:=Tryz.func133.trans (congrArg some (by kernel_rfl))
 f243:=Tryz.func208.trans (congrArg some (by kernel_rfl))
 f246:=Tryz.func271.trans (congrArg some (by kernel_rfl))
 f283:=Tryz.func302.trans (congrArg some (by kernel_rfl))
 f284:=Tryz.func303.trans (congrArg some (by kernel_rfl))
 f285:=Tryz.func304.trans (congrArg some (by kernel_rfl))
 f286:=Tryz.func305.trans (congrArg some (by kernel_rfl))
 f317:=Tryz.func325.trans (congrArg some (by kernel_rfl))
 f318:=Tryz.func327.trans (congrArg some (by kernel_rfl))
 f319:=Tryz.func328.trans (congrArg some (by kernel_rfl))
 f320:=Tryz.func329.trans (congrArg some (by kernel_rfl))
 f337:=Tryz.func343.trans (congrArg some (by kernel_rfl))
 f338:=Tryz.func344.trans (congrArg some (by kernel_rfl))
 t0:=Tryz.underlying0
 a0:=Tryz.isAgg0
 z0:=Tryz.sizeOf0
 v0:=Tryz.zeroValue0
 t2:=Tryz.underlying2
 a2:=Tryz.isAgg2
 z2:=Tryz.sizeOf2
 v2:=Tryz.zeroValue2
 t3:=Tryz.underlying3
 a3:=Tryz.isAgg3
 z3:=Tryz.sizeOf3
 v3:=Tryz.zeroValue3
 t4:=Tryz.underlying4
 a4:=Tryz.isAgg4
 z4:=Tryz.sizeOf4
 v4:=Tryz.zeroValue4
 t5:=Tryz.underlying5
 a5:=Tryz.isAgg5
 z5:=Tryz.sizeOf5
 v5:=Tryz.zeroValue5
 t9:=Tryz.underlying9
 a9:=Tryz.isAgg9
 z9:=Tryz.sizeOf9
 v9:=Tryz.zeroValue9
 t20:=Tryz.underlying20
 a20:=Tryz.isAgg20
 z20:=Tryz.sizeOf20
 v20:=Tryz.zeroValue20
 t37:=Tryz.underlying42
 a37:=Tryz.isAgg42
 z37:=Tryz.sizeOf42
 v37:=Tryz.zeroValue42
 t46:=Tryz.underlying87
 a46:=Tryz.isAgg87
 z46:=Tryz.sizeOf87
 v46:=Tryz.zeroValue87
 t51:=Tryz.underlying342
 a51:=Tryz.isAgg342
 z51:=Tryz.sizeOf342
 v51:=Tryz.zeroValue342
 t53:=Tryz.underlying320
 a53:=Tryz.isAgg320
 z53:=Tryz.sizeOf320
 v53:=Tryz.zeroValue320
 t171:=Tryz.underlying319
 a171:=Tryz.isAgg319
 z171:=Tryz.sizeOf319
 v171:=Tryz.zeroValue319
 t173:=Tryz.underlying323
 a173:=Tryz.isAgg323
 z173:=Tryz.sizeOf323
 v173:=Tryz.zeroValue323
 t212:=Tryz.underlying341
 a212:=Tryz.isAgg341
 z212:=Tryz.sizeOf341
 v212:=Tryz.zeroValue341
 t213:=Tryz.underlying343
 a213:=Tryz.isAgg343
 z213:=Tryz.sizeOf343
 t232:=Tryz.underlying364
 a232:=Tryz.isAgg364
 z232:=Tryz.sizeOf364
 v232:=Tryz.zeroValue364
 t233:=Tryz.underlying365
 a233:=Tryz.isAgg365
 z233:=Tryz.sizeOf365
 v233:=Tryz.zeroValue365
 g17:=by kernel_rfl
 g18:=by kernel_rfl
 g19:=by kernel_rfl
 i0:=by kernel_rfl
 i2:=by kernel_rfl
 i3:=by kernel_rfl
 i4:=by kernel_rfl
 i5:=by kernel_rfl
 i9:=by kernel_rfl
 i20:=by kernel_rfl
 i37:=by kernel_rfl
 i46:=by kernel_rfl
 i51:=by kernel_rfl
 i53:=by kernel_rfl
 i171:=by kernel_rfl
 i173:=by kernel_rfl
 i212:=by kernel_rfl
 i232:=by kernel_rfl
 i233:=by kernel_rfl
 m17:=by kernel_rfl
 m18:=by kernel_rfl
 m19:=by kernel_rfl }
open Go.RowKit Go.Sort Go.Lib in
def Tryz.strconv_Itoa (n : Int) (h0 : -9223372036854775808 <= n) (h1 : n <= 9223372036854775807) (w : World) (htab : Lib.TabIs Tryz.prog w "internal/strconv.uint64pow10" .u64 Lib.pow10Tab) :
  Calls Tryz.prog 133 #[.int .i64 n] w fun e w'=>e=.returned (.string ⟨(Lib.itoa n).toArray⟩)/\∃ k os,w'=grow (w.drewN k) os:=Any.strconv_Itoa Tryz.laysM171 n h0 h1 w htab
end Go.Proofs
namespace Go.Proofs.YticfnaiehdpbmaaGreatDoor
open Go.RowKit Go.Proofs.Tryz
section
open Go.ChangeShapes Go.WideShapes Go.ChangeAt Go.WideMaps Go.WideElems Go.RowKit
def jn (a b:OH):OH:=⟨(a.data.toList++10::b.data.toList).toArray⟩
def YG (a b:OH):(jn a b).data.toList=a.data.toList++10::b.data.toList:=by simp[jn]
def Sj (a:OH):a.data.toList.length=a.size:=by simp
section
variable (a b:OH)
include a b
def YH:(jn a b).size=a.size+1+b.size:=by
 rw[<-Sj,YG];simp;omega
def ZR (i:Nat)(h:i<a.size):bt (jn a b) i=bt a i:=by
 unfold bt;rw[YG,List.getD_eq_getElem?_getD,List.getD_eq_getElem?_getD,List.getElem?_append_left (by rw[Sj];exact h)]
def ZT (i:Nat):bt (jn a b) (a.size+1+i)=bt b i:=by
 unfold bt;rw[YG,List.getD_eq_getElem?_getD,List.getD_eq_getElem?_getD,List.getElem?_append_right (by rw[Sj];omega),Sj]
 rw[show a.size+1+i - a.size=i+1 by omega,List.getElem?_cons_succ]
def Ze (k:Nat)(h:k<=a.size):(jn a b).data.toList.drop k=a.data.toList.drop k++10::b.data.toList:=by
 rw[YG,List.drop_append_of_le_length (by rw[Sj];exact h)]
def acJ (k:Nat):(jn a b).data.toList.drop (a.size+1+k)=b.data.toList.drop k:=by
 rw[YG,List.drop_append,List.drop_of_length_le (by rw[Sj];omega),Sj,show a.size+1+k - a.size=k+1 by omega]
 rfl
end
section
variable (p:Int->Bool) (a b:OH) (k:Nat)
include p a b k
theorem akL (h:k<=a.size)(al:p 10=false):OT p (jn a b) k=OT p a k:=by
 unfold OT;rw[Ze a b k h,List.takeWhile_append,List.takeWhile_cons];have:p (((10:UInt8).toNat:Nat):Int)=false:=al;rw[this];simp only[Bool.false_eq_true,if_false,List.append_nil]
 split
 ·rename_i h1
  rw[h1]
 ·rfl
theorem Zf:OT p (jn a b) (a.size+1+k)=a.size+1+OT p b k:=by
 unfold OT;rw[acJ];omega
theorem aaR (h:k<=a.size)(al:p 10=true) :
  OT p (jn a b) k=if OT p a k<a.size then OT p a k else a.size+1+OT p b 0:=by
 have gc:=QL p a k h;unfold OT at gc ⊢;rw[Ze a b k h,List.takeWhile_append,List.takeWhile_cons];have:p (((10:UInt8).toNat:Nat):Int)=true:=al;rw[this];have hd:(a.data.toList.drop k).length=a.size - k:=by rw[List.length_drop,Sj]
 simp only[if_true,List.drop_zero]
 split
 ·rename_i h1
  rw[if_neg Ou];simp only[List.length_append,List.length_cons];omega
 ·rename_i h1
  rw[if_pos Ou]
end
def acK (a b:OH)(k e:Nat)(h:e<=a.size):(jn a b).extract k e=a.extract k e:=by
 apply bytes_inj;rw[ByteArray.data_extract,ByteArray.data_extract,Array.toList_extract,Array.toList_extract,YG];simp only[List.extract_eq_take_drop]
 by_cases E:k<=a.size
 ·rw[List.drop_append_of_le_length (by rw[Sj];exact E),List.take_append_of_le_length (by rw[List.length_drop,Sj];omega)]
 ·rw[show e - k=0 by omega];simp
def WU (a b:OH)(k e:Nat):(jn a b).extract (a.size+1+k) (a.size+1+e)=b.extract k e:=by
 apply bytes_inj;rw[ByteArray.data_extract,ByteArray.data_extract,Array.toList_extract,Array.toList_extract];simp only[List.extract_eq_take_drop];rw[acJ,show a.size+1+e - (a.size+1+k)=e - k by omega]
def aDr:Vf 10=false:=by decide
def aDs:Ql 10=false:=by decide
def avd:Qe 10=true:=by decide
def ati (aY:List OH)(a b:OH)(k:Nat)(h:k<=a.size):TG aY (jn a b) k=TG aY a k:=by
 unfold TG;rw[akL Vf a b k h aDr,acK a b k _ (QL Vf a k h)]
def axL (a b:OH)(k:Nat)(h:k<a.size):rdNum (jn a b) k=rdNum a k:=by
 unfold rdNum;rw[akL Ql a b k Ou aDs,acK a b k _ (QL Ql a k Ou)];have:=ZR a b k h;unfold bt at this;rw[this]
def axM (a b:OH):∀ n i said l e,a.size - i=n->U8 a i said=.ok l e->U8 (jn a b) i said=.ok l e:=by
 intro n
 induction n using Nat.strongRecOn with
 | ind n bn=>
  intro i said l e az h;have aN:=YH a b
  by_cases aQ:i<a.size
  ·have D:=ZR a b i aQ
   by_cases c1:bt a i=39
   ·rw[Vo a i said aQ c1] at h;rw[Vo (jn a b) i said Ou (by rw[D];exact c1)]
    exact h
   ·by_cases c2:bt a i=10
    ·rw[abq a i said aQ c2] at h;cases h
    ·by_cases c3:bt a i=92
     ·by_cases h1:i+1<a.size
      ·
       cases aS:esc (bt a (i+1)) with
       | none=>rw[Ud a i said aQ c3 (fun _=>aS)] at h;cases h
       | some m=>
        rw[Xr a i said m aQ c3 h1 aS] at h;rw[Xr (jn a b) i said m Ou (by rw[D];exact c3) Ou (by rw[ZR a b _ h1];exact aS)]
        exact bn (a.size - (i+2)) Ou (i+2) _ l e rfl h
      ·rw[Ud a i said aQ c3 (fun hh=>absurd hh h1)] at h;cases h
     ·rw[Vp a i said aQ c1 c2 c3] at h;rw[Vp (jn a b) i said Ou (by rw[D];exact c1) (by rw[D];exact c2) (by rw[D];exact c3),D]
      exact bn (a.size - (i+1)) Ou (i+1) _ l e rfl h
  ·rw[ZU a i said aQ] at h;cases h
def amE (a b:OH):∀ n i said l e,b.size - i=n->U8 b i said=.ok l e->U8 (jn a b) (a.size+1+i) said=.ok l (a.size+1+e):=by
 intro n
 induction n using Nat.strongRecOn with
 | ind n bn=>
  intro i said l e az h;have aN:=YH a b
  by_cases aQ:i<b.size
  ·have D:=ZT a b i
   by_cases c1:bt b i=39
   ·rw[Vo b i said aQ c1] at h;rw[Vo (jn a b) _ said Ou (by rw[D];exact c1)]
    cases h;rfl
   ·by_cases c2:bt b i=10
    ·rw[abq b i said aQ c2] at h;cases h
    ·by_cases c3:bt b i=92
     ·by_cases h1:i+1<b.size
      ·
       cases aS:esc (bt b (i+1)) with
       | none=>rw[Ud b i said aQ c3 (fun _=>aS)] at h;cases h
       | some m=>
        rw[Xr b i said m aQ c3 h1 aS] at h;rw[Xr (jn a b) _ said m Ou (by rw[D];exact c3) Ou (by rw[show a.size+1+i+1=a.size+1+(i+1) by omega,ZT a b _];exact aS)]
        exact bn (b.size - (i+2)) Ou (i+2) _ l e rfl h
      ·rw[Ud b i said aQ c3 (fun hh=>absurd hh h1)] at h;cases h
     ·rw[Vp b i said aQ c1 c2 c3] at h;rw[Vp (jn a b) _ said Ou (by rw[D];exact c1) (by rw[D];exact c2) (by rw[D];exact c3),D]
      exact bn (b.size - (i+1)) Ou (i+1) _ l e rfl h
  ·rw[ZU b i said aQ] at h;cases h
def akM (x p:OH):YJ x p=true↔p.data.toList <+: x.data.toList:=by
 unfold YJ;rw[Bool.and_eq_true,decide_eq_true_eq,beq_iff_eq];have ay:(x.extract 0 p.size).data.toList=x.data.toList.take p.size:=by
  rw[ByteArray.data_extract,Array.toList_extract];simp[List.extract_eq_take_drop]
 have bz:∀ y:OH,y.toList=y.data.toList:=fun y=>ByteArray.toList_eq y;rw[bz,bz,ay,List.prefix_iff_eq_take,Sj];constructor
 ·exact fun h=>h.2.symm
 ·intro h;refine⟨?_,h.symm⟩;have:=congrArg List.length h;rw[List.length_take,Sj,Sj] at this;omega
def amF (g b3 o':List UInt8)(hg:(10:UInt8) ∉ g):g <+: b3++10::o'↔g <+: b3:=by
 constructor
 ·intro h
  induction b3 generalizing g with
  | nil=>
   cases g with
   | nil=>exact List.nil_prefix
   | cons x g=>
    rw[List.nil_append,List.cons_prefix_cons] at h;exact absurd (by simp[h.1]) hg
  | cons y b3 bn=>
   cases g with
   | nil=>exact List.nil_prefix
   | cons x g=>
    rw[List.cons_append,List.cons_prefix_cons] at h;rw[List.cons_prefix_cons];exact⟨h.1,bn g (fun hh=>hg (by simp[hh])) h.2⟩
 ·exact fun h=>h.trans (List.prefix_append _ _)
def ad7 (s:OH)(k:Nat):(s.extract k s.size).data.toList=s.data.toList.drop k:=by
 rw[ByteArray.data_extract,Array.toList_extract,List.extract_eq_take_drop,List.take_of_length_le (by rw[List.length_drop,Sj];omega)]
def axN (a b g:OH)(k:Nat)(h:k<=a.size)(hg:(10:UInt8) ∉ g.data.toList):YJ ((jn a b).extract k (jn a b).size) g=YJ (a.extract k a.size) g:=by
 have:YJ ((jn a b).extract k (jn a b).size) g=true↔YJ (a.extract k a.size) g=true:=by
  rw[akM,akM,ad7,ad7,Ze a b k h,amF _ _ _ hg]
 cases h1:YJ ((jn a b).extract k (jn a b).size) g <;> cases U:YJ (a.extract k a.size) g <;> simp_all
def find_congr (bb:List OH)(f eH:OH->Bool)(h:∀ g ∈ bb,f g=eH g):bb.find? f=bb.find? eH:=by
 induction bb with
 | nil=>rfl
 | cons g bb bn=>
  rw[List.find?_cons,List.find?_cons,h g O8,bn (fun x ae=>h x (by simp[ae]))]
def atj (bb:List OH)(a b:OH)(k:Nat)(h:k<=a.size)(hg:∀ g ∈ bb,(10:UInt8) ∉ g.data.toList):Uk bb (jn a b) k=Uk bb a k:=by
 unfold Uk;rw[find_congr bb _ _ (fun g aS=>axN a b g k h (hg g aS))]
def axO (aY bb:List OH)(a b:OH)(k:Nat)(kd n:Int)(tx:OH)(e:Nat)(h:k<a.size)(hg:∀ g ∈ bb,(10:UInt8) ∉ g.data.toList)
  (aa:RU aY bb a k=.tok kd tx n e):RU aY bb (jn a b) k=.tok kd tx n e:=by
 rw[<-aa];unfold RU at aa ⊢;rw[ZR a b k h,ati aY a b k Ou,axL a b k h,atj bb a b k Ou hg]
 split
 ·rfl
 ·split
  ·rfl
  ·split
   ·rename_i h1 U aw
    rw[if_neg h1,if_neg U,if_pos aw] at aa;unfold rdStr at aa ⊢
    cases ac:U8 a (k+1) [] with
    | ok l g0=>rw[axM a b _ _ _ l g0 rfl ac]
    | bad p=>rw[ac] at aa;cases aa
   ·rfl
def aDt (pZ:Nat):Rd->Rd
 | .tok kd tx n e=>.tok kd tx n (pZ+e)
 | .bad er p=>.bad er (pZ+p)
def amG (aY bb:List OH)(a b:OH)(k:Nat)(kd n:Int)(tx:OH)(e:Nat)
  (aa:RU aY bb b k=.tok kd tx n e):RU aY bb (jn a b) (a.size+1+k)=.tok kd tx n (a.size+1+e):=by
 have key:RU aY bb (jn a b) (a.size+1+k)=aDt (a.size+1) (RU aY bb b k):=by
  unfold RU at aa ⊢;rw[ZT a b k]
  split
  ·unfold TG;rw[Zf,WU,show a.size+1+OT Vf b k - (a.size+1+k)=OT Vf b k - k by omega]
   split
   ·rfl
   ·split <;> rfl
  ·split
   ·unfold rdNum;have:=ZT a b k;unfold bt at this;rw[Zf,WU,this,show a.size+1+OT Ql b k - (a.size+1+k)=OT Ql b k - k by omega]
    split
    ·rfl
    ·split
     ·rfl
     ·split <;> rfl
   ·split
    ·rename_i h1 U aw
     rw[if_neg h1,if_neg U,if_pos aw] at aa;unfold rdStr at aa ⊢
     cases ac:U8 b (k+1) [] with
     | ok l g0=>
      rw[show a.size+1+k+1=a.size+1+(k+1) by omega,amE a b _ _ _ l g0 rfl ac];simp only
      split <;> rfl
     | bad p=>rw[ac] at aa;cases aa
    ·unfold Uk;rw[YH,show a.size+1+b.size=a.size+1+b.size from rfl,WU]
     split
     ·simp only[aDt];rw[Nat.add_assoc]
     ·rfl
 rw[key,aa];rfl
def afo (pZ:Nat)(t:Tk):Tk:=⟨t.kd,t.tx,t.n,pZ+t.pl⟩
section
variable (aY bb:List OH) (a b:OH) (h5:∀ g ∈ bb,1<=g.size)
include aY bb a b h5
theorem atl:∀ m i aX tK l,b.size - i=m->i<=b.size->RH aY bb b i aX=.ok l ->
  ∃ l',l=aX++l'/\RH aY bb (jn a b) (a.size+1+i) tK=.ok (tK++l'.map (afo (a.size+1))):=by
 intro m
 induction m using Nat.strongRecOn with
 | ind m bn=>
  intro i aX tK l aS am h;have aN:=YH a b
  by_cases aQ:i<b.size
  ·
   cases aa:RU aY bb b i with
   | bad er p=>rw[WX aY bb b i aX er p aQ aa] at h;cases h
   | tok kd tx n e=>
    have D:=VX aY bb b i kd n tx e aQ h5 aa;rw[Qh aY bb b i aX kd n tx e aQ aa D.1] at h;have pL:=Us Qe b e;have gc:=QL Qe b e D.2;obtain⟨l',h1,U⟩:=bn (b.size - OT Qe b e) Ou (OT Qe b e) _ (tK++[⟨kd,tx,n,a.size+1+i⟩]) l rfl gc h;refine⟨⟨kd,tx,n,i⟩::l',by rw[h1];simp,?_⟩
    rw[Qh aY bb (jn a b) _ tK kd n tx (a.size+1+e) Ou (amG aY bb a b i kd n tx e aa) Ou,Zf,U];simp[afo]
  ·rw[UN aY bb b i aX aQ] at h;refine⟨[⟨6,⟨#[]⟩,0,b.size⟩],by cases h;rfl,?_⟩
   rw[UN aY bb (jn a b) _ tK Ou,aN];simp[afo]
theorem atn (hg:∀ g ∈ bb,(10:UInt8) ∉ g.data.toList):∀ m i aX l,a.size - i=m->i<=a.size->RH aY bb a i aX=.ok l ->
  ∃ l',l=l'++[⟨6,⟨#[]⟩,0,a.size⟩]/\RH aY bb (jn a b) (if i<a.size then i else a.size+1+OT Qe b 0) aX=RH aY bb (jn a b) (a.size+1+OT Qe b 0) l':=by
 intro m
 induction m using Nat.strongRecOn with
 | ind m bn=>
  intro i aX l aS am h;have aN:=YH a b
  by_cases aQ:i<a.size
  ·
   cases aa:RU aY bb a i with
   | bad er p=>rw[WX aY bb a i aX er p aQ aa] at h;cases h
   | tok kd tx n e=>
    have D:=VX aY bb a i kd n tx e aQ h5 aa;rw[Qh aY bb a i aX kd n tx e aQ aa D.1] at h;have pL:=Us Qe a e;have gc:=QL Qe a e D.2;obtain⟨l',h1,U⟩:=bn (a.size - OT Qe a e) Ou (OT Qe a e) _ l rfl gc h;refine⟨l',h1,?_⟩;rw[if_pos aQ,Qh aY bb (jn a b) _ aX kd n tx e Ou (axO aY bb a b i kd n tx e aQ hg aa) Ou,aaR Qe a b e D.2 avd];exact U
  ·rw[UN aY bb a i aX aQ] at h;refine⟨aX,by cases h;rfl,?_⟩
   rw[if_neg aQ]
end
def amH (aY bb:List OH)(a b:OH)(la lb:List Tk)(h5:∀ g ∈ bb,1<=g.size)(hg:∀ g ∈ bb,(10:UInt8) ∉ g.data.toList)
  (ax:RH aY bb a (OT Qe a 0) []=.ok la) (D:RH aY bb b (OT Qe b 0) []=.ok lb) :
  ∃ l',la=l'++[⟨6,⟨#[]⟩,0,a.size⟩]/\RH aY bb (jn a b) (OT Qe (jn a b) 0) []=.ok (l'++lb.map (afo (a.size+1))):=by
 obtain⟨l',h1,U⟩:=atn aY bb a b h5 hg _ (OT Qe a 0) [] la rfl (QL Qe a 0 (Nat.zero_le _)) ax;refine⟨l',h1,?_⟩;rw[aaR Qe a b 0 (Nat.zero_le _) avd,U];obtain⟨o',aw,aL⟩:=atl aY bb a b h5 _ (OT Qe b 0) [] l' lb rfl (QL Qe b 0 (Nat.zero_le _)) D;rw[aL,aw];simp
end
def Js {α:Type}(O L a:Nat)(r hE:PR α):Prop:=∀ x j,r=.ok x j->(a<=j/\j<L)/\(j<O->hE=.ok x j)
section
variable {α:Type}
include α
def Js.ok {O L a i:Nat}{x:α}(h1:a<=i)(U:i<L):Js O L a (.ok x i) (.ok x i):=
 fun _ _ h=>by cases h;exact⟨⟨h1,U⟩,fun _=>rfl⟩
def Js.bad {O L a:Nat}{er:Int}{p:Nat}{r:PR α}:Js O L a (.bad er p) r:=fun _ _ h=>by cases h
def Js.out {O L a:Nat}{r:PR α}:Js O L a .out r:=fun _ _ h=>by cases h
def Js.Tc {O L a:Nat}{l:List Tk}{er:Int}{i:Nat}{r:PR α}:Js O L a (Tc l er i) r:=Js.bad
def Js.le {O L a b:Nat}{r hE:PR α}(h:Js O L a r hE)(D:b<=a):Js O L b r hE:=fun x j e=>⟨⟨Nat.le_trans D (h x j e).1.1,(h x j e).1.2⟩,(h x j e).2⟩
def Js.less {O B L a:Nat}{r hE:PR α}(h:Js B L a r hE)(D:O<=B):Js O L a r hE:=fun x j e=>⟨(h x j e).1,fun aN=>(h x j e).2 Ou⟩
def Js.low {O L a:Nat}{r hE:PR α}(h:Js (O+1) L a r hE):Js O L a r hE:=h.less (Nat.le_succ _)
def Js.far {O L a:Nat}{r hE KR:PR α}(h:Js O L a r KR)(ax:O<=a):Js O L a r hE:=fun x j e=>⟨(h x j e).1,fun aN=>absurd (h x j e).1.1 Ou⟩
end
def Js.agb {α β:Type}{O L a b:Nat}(oG:Nat){r hE:PR α}{f eH:α->Nat->PR β}(h:Js O L a r hE)(D:b<=a+oG)
  (aH:∀ x i,a<=i->i<L->Js (O+oG) L (i+oG) (f x i) (eH x i)):Js (O+oG) L b (r.bind f) (hE.bind eH):=by
 intro y j e
 cases r with
 | ok x i=>
  have h1:=h x i rfl;have U:=aH x i h1.1.1 h1.1.2 y j e;refine⟨⟨by omega,U.1.2⟩,fun aN=>?_⟩;rw[h1.2 Ou];exact U.2 aN
 | bad er p=>cases e
 | out=>cases e
def Js.bind {α β:Type}{O L a b:Nat}{r hE:PR α}{f eH:α->Nat->PR β}(h:Js O L a r hE)(D:b<=a)
  (aH:∀ x i,a<=i->i<L->Js O L i (f x i) (eH x i)):Js O L b (r.bind f) (hE.bind eH):=Js.agb 0 h D aH
def Js.ite {α:Type}{B L a:Nat}{c en:Prop} [Decidable c] [Decidable en] {X Y vz vB:PR α}(aj:a<B->(c↔en))(h1:c->Js B L a X vz)(U:¬ c->Js B L a Y vB) :
  Js B L a (if c then X else Y) (if en then vz else vB):=by
 by_cases aO:a<B
 ·by_cases h:c
  ·rw[if_pos h,if_pos ((aj aO).1 h)];exact h1 h
  ·rw[if_neg h,if_neg (fun hh=>h ((aj aO).2 hh))];exact U h
 ·by_cases h:c
  ·rw[if_pos h];exact(h1 h).far Ou
  ·rw[if_neg h];exact(U h).far Ou
section
variable {l l':List Tk} {O:Nat} (aD:Ends l) (aO:∀ i,i<O->O9 l i=O9 l' i)
include aO in
theorem VP {i:Nat}(am:i<O):fx l i=fx l' i:=by unfold fx;rw[aO i am]
include aD aO
theorem Rl {s:OH}{i:Nat}(am:i<l.length)(ac:s≠Ox):Js (O+1) l.length (i+1) (Pm l s i) (Pm l' s i):=by
 unfold Pm;exact Js.ite (fun h=>by rw[VP aO Ou]) (fun h=>Js.ok O6 (TK aD am h ac)) (fun _=>Js.Tc)
theorem Wj {i:Nat}(am:i<l.length):Js (O+1) l.length (i+1) (nameP l i) (nameP l' i):=by
 by_cases h:i<O
 ·unfold nameP;rw[aO i h]
  split
  ·rename_i h1
   exact Js.ok O6 (TL aD am (by rw[aO i h,h1];decide))
  ·exact Js.Tc
 ·exact fun x j e=>⟨(Ut (q:=True) aD am).2 x j e,fun aN=>absurd ((Ut (q:=True) aD am).2 x j e).1 Ou⟩
omit aD aO in
theorem Tz {B:Nat}{f eH:Nat->Nat->PR Tr}{d i:Nat}(h:Js B l.length (i+1) (f (d+1) i) (eH (d+1) i)):Js B l.length (i+1) (PD l f d i) (PD l' eH d i):=by
 unfold PD
 by_cases hd:d=30
 ·rw[if_pos hd];exact Js.Tc
 ·rw[if_neg hd,if_neg hd];exact h
theorem agc {shut:OH}{begins oC:Nat->Bool}{part part':Nat->PR Tr}(ac:shut≠Ox)(D:∀ i,i<O->begins i=oC i)(al:∀ i,i<l.length->Js O l.length (i+1) (part i) (part' i)) :
  ∀ k aX i,i<l.length->Js (O+1) l.length (i+1) (QN l shut begins part k aX i) (QN l' shut oC part' k aX i):=by
 intro k
 induction k with
 | zero=>intro aX i _;exact Js.out
 | succ k bn=>
  intro aX i am;unfold QN;refine Js.ite (fun h=>by rw[D i Ou]) (fun _=>Js.Tc) fun _=>?_;refine Js.agb 1 (al i am) Ou fun t j h1 U=>?_;refine Js.ite (fun h=>by rw[VP aO Ou]) (fun ae=>Js.ok Ou (TK aD U ae ac)) fun _=>?_;exact Js.bind (Rl aD aO U Oz) O6 fun _ b' aw aL=>(bn _ b' aL).le Ou
theorem abO {opn shut:OH}{begins oC:Nat->Bool}{part part':Nat->PR Tr}{k i:Nat}(am:i<l.length)(aR:opn≠Ox)(ac:shut≠Ox)(D:∀ i,i<O->begins i=oC i)(al:∀ j,j<l.length->Js O l.length (j+1) (part j) (part' j)) :
  Js (O+1) l.length (i+1) (UQ l opn shut begins part k i) (UQ l' opn shut oC part' k i):=by
 unfold UQ;refine Js.bind (Rl aD aO am aR) O6 fun _ j h1 U=>?_;refine Js.le (a:=j+1) (Js.ite (fun h=>by rw[VP aO Ou]) (fun ae=>Js.ok O6 (TK aD U ae ac)) fun _=>?_) Ou;exact agc aD aO ac D al k [] j U
omit aD in
theorem aaf {i:Nat}(am:i<O):isName l i=isName l' i:=by unfold isName;rw[aO i am]
omit aD in
theorem anR {i:Nat}(am:i<O):isVal l i=isVal l' i:=by unfold isVal;rw[VP aO am,aO i am]
structure FJs (l:List Tk)(O:Nat)(F c8:SX):Prop where
 fuel:F.fuel=c8.fuel
 st:∀ d i,i<l.length->Js (O+1) l.length (i+1) (F.st d i) (c8.st d i)
 vl:∀ d i,i<l.length->Js O l.length (i+1) (F.vl d i) (c8.vl d i)
 pr:∀ b d i,i<l.length->Js O l.length (i+1) (F.pr b d i) (c8.pr b d i)
 sg:∀ d i,i<l.length->Js O l.length (i+1) (F.sg d i) (c8.sg d i)
def Parts (l l':List Tk)(O:Nat):Prop:=∀ s,s=aaN\/s=UH\/s=QM->fx l O≠s/\fx l' O≠s
omit aD in
theorem abP (eC:Parts l l' O){i:Nat}{s:OH}(am:i<O+1)(ac:s=aaN\/s=UH\/s=QM):fx l i=s↔fx l' i=s:=by
 by_cases h:i<O
 ·rw[VP aO h]
 ·have h1:i=O:=Ou;subst h1;exact⟨fun h=>absurd h (eC s ac).1,fun h=>absurd h (eC s ac).2⟩
variable {F c8:SX} (ah:FJs l O F c8)
include ah
theorem aex:∀ n d aX i,i<l.length->Js (O+1) l.length (i+1) (Qa l F d n aX i) (Qa l' c8 d n aX i):=by
 intro n
 induction n with
 | zero=>intro d aX i _;exact Js.out
 | succ n bn=>
  intro d aX i am;unfold Qa;refine Js.ite (fun h=>by rw[VP aO Ou]) (fun ae=>Js.ok Ou (TK aD am ae Oz)) fun _=>?_;exact Js.bind (Tz (ah.st (d+1) i am)) O6 fun t j h1 U=>(bn d _ j U).le Ou
theorem Xb {d i:Nat}(am:i<l.length):Js (O+1) l.length (i+1) (PX l F d i) (PX l' c8 d i):=by
 unfold PX;rw[<-ah.fuel];refine Js.bind (Rl aD aO am Oz) O6 fun _ j h1 U=>?_;exact Js.bind (aex aD aO ah F.fuel d [] j U) Ou fun ao b' aw aL=>Js.ok O6 aL
omit ah in
theorem alv {i:Nat}(am:i<l.length):Js (O+1) l.length (i+1) (Td l i) (Td l' i):=by
 unfold Td;exact Js.bind (Wj aD aO am) O6 fun s j h1 U=>Js.ok O6 U
theorem aio {i:Nat}(am:i<l.length):Js (O+1) l.length (i+1) (QY l F i) (QY l' c8 i):=by
 unfold QY;rw[<-ah.fuel];exact Js.bind (abO aD aO am Oz Oz (fun i h=>aaf aO h) fun j h=>(alv aD aO h).low) O6 fun ao j h1 U=>Js.ok O6 U
omit aD aO in
theorem arQ {d i:Nat}(am:i<l.length):Js O l.length (i+1) (aaZ l F d i) (aaZ l' c8 d i):=Tz (ah.vl _ _ am)
section
variable {d i:Nat} (am:i<l.length)
include d i am
theorem anS:Js O l.length (i+1) (UZ l F d i) (UZ l' c8 d i):=by
 unfold UZ;refine Js.bind (Wj aD aO am).low O6 fun s j h1 U=>?_;refine Js.bind (Rl aD aO U Oz).low Ou fun _ b' aw aL=>?_;exact Js.bind (Tz (ah.vl _ _ aL)) Ou fun t gr bE bX=>Js.ok O6 bX
theorem aag:Js (O+1) l.length (i+1) (SC l F d i) (SC l' c8 d i):=by
 unfold SC;refine Js.bind (Rl aD aO am Oz) O6 fun _ b' aw aL=>?_;refine Js.agb 1 (Tz (ah.vl _ _ aL)) Ou fun t gr bE bX=>?_;exact Js.bind (Rl aD aO bX Oz) O6 fun _ wS fY fQ=>Js.ok O6 fQ
theorem aip:Js (O+1) l.length (i+1) (Tf l F d i) (Tf l' c8 d i):=by
 unfold Tf;rw[<-ah.fuel];exact Js.bind (abO aD aO am Oz Oz (fun i h=>aaf aO h) fun j h=>anS aD aO ah h) O6 fun ao j h1 U=>Js.ok O6 U
end
theorem X9 {kd:Int}{s:OH}{d i:Nat}(am:i<l.length):Js (O+1) l.length (i+1) (Qy l F kd s d i) (Qy l' c8 kd s d i):=by
 unfold Qy;refine Js.bind (aio aD aO ah am) O6 fun ps j h1 U=>?_;exact Js.bind (Xb aD aO ah U) Ou fun b b' aw aL=>Js.ok O6 aL
theorem aiq {d i:Nat}(am:i<l.length):Js (O+1) l.length (i+1) (Ti l F d i) (Ti l' c8 d i):=by
 unfold Ti;refine Js.bind (Rl aD aO am Oz) O6 fun _ j h1 U=>?_;refine Js.le (a:=j+1) (Js.ite (fun h=>by rw[aaf aO Ou]) (fun _=>?_) fun _=>?_) Ou
 ·exact Js.bind (Wj aD aO U) O6 fun s b' aw aL=>(X9 aD aO ah aL).le Ou
 ·exact X9 aD aO ah U
theorem anT {d i:Nat}(am:i<l.length):Js (O+1) l.length (i+1) (V9 l F d i) (V9 l' c8 d i):=by
 unfold V9;refine Js.bind (Rl aD aO am Oz) O6 fun _ j h1 U=>?_;exact Js.bind (Wj aD aO U) Ou fun s b' aw aL=>(X9 aD aO ah aL).le Ou
variable {k:Nat} (hN:FNx l k F)
include hN
theorem alx {d i:Nat}(am:i<l.length):Js (O+1) l.length (i+1) (SE l F d i) (SE l' c8 d i):=by
 by_cases h:i<O
 ·have ay:=VP aO h;have bz:=aO i h;unfold SE;rw[<-ay,<-bz]
  split
  ·exact aag aD aO ah am
  ·exact aip aD aO ah am
  ·exact aiq aD aO ah am
  ·split
   ·rename_i s ac
    exact Js.ok O6 (WS aD am ac)
   ·split
    ·rename_i h;exact Js.ok O6 (TL aD am (by rw[h];decide))
    ·split
     ·rename_i h;exact Js.ok O6 (TL aD am (by rw[h];decide))
     ·split
      ·rename_i h;exact Js.ok O6 (TL aD am (by rw[h];decide))
      ·exact Js.Tc
 ·have al:=adJ (q:=False) (d:=d) aD hN am (fun h=>h.elim);exact arR
omit hN in
theorem aey:∀ n d t i,i<l.length->Js O l.length i (Qr l F d n t i) (Qr l' c8 d n t i):=by
 intro n
 induction n with
 | zero=>intro d aX i _;exact Js.out
 | succ n bn=>
  intro d t i am;unfold Qr;rw[<-ah.fuel];refine Js.ite (fun h=>by rw[VP aO h]) (fun ae=>?_) fun _=>Js.ite (fun h=>by rw[VP aO h]) (fun ae=>?_) fun _=>Js.ok O6 am
  ·have h0:=TK aD am ae Oz;exact Js.bind (Wj aD aO h0).low Ou fun s j h1 U=>bn d _ j U
  ·exact Js.bind (abO aD aO am Oz Oz (fun i h=>anR aO h) fun j h=>arQ ah h).low Ou fun ao j h1 U=>bn d _ j U
theorem aly {d i:Nat}(am:i<l.length):Js O l.length (i+1) (SG l F d i) (SG l' c8 d i):=by
 unfold SG;rw[<-ah.fuel];exact Js.bind (alx aD aO ah hN am).low O6 fun t j h1 U=>aey aD aO ah F.fuel d t j U
theorem air {d i:Nat}(am:i<l.length):Js O l.length (i+1) (Ry l F d i) (Ry l' c8 d i):=by
 by_cases h:i<O
 ·unfold Ry;rw[<-VP aO h]
  split
  ·rename_i s ac
   have h0:=WS aD am ac;exact Js.bind (Tz (ah.sg _ _ h0)) Ou fun t j h1 U=>Js.ok O6 U
  ·exact aly aD aO ah hN am
 ·have al:=abQ (d:=d) aD hN am;exact arR
theorem agd:∀ n b d t i,i<l.length->Js O l.length i (QO l F b d n t i) (QO l' c8 b d n t i):=by
 intro n
 induction n with
 | zero=>intro b d aX i _;exact Js.out
 | succ n bn=>
  intro b d t i am
  by_cases h:i<O
  ·unfold QO;rw[<-VP aO h]
   split
   ·exact Js.ok O6 am
   ·rename_i s ac
    have h0:=WS aD am ac
    split
    ·exact Js.ok O6 am
    ·exact Js.bind (ah.pr _ _ _ h0) Ou fun u j h1 U=>bn b d _ j U
  ·rcases Nat.eq_zero_or_pos i with h0|h0
   ·subst h0;intro x j e
    by_cases aN:j<O
    ·omega
    ·refine⟨⟨by omega,?_⟩,fun hh=>absurd hh aN⟩;unfold QO at e
     split at e
     ·
      cases e;exact am
     ·rename_i s ac
      have h0:=WS aD am ac
      split at e
      ·
       cases e;exact am
      ·have:=Js.bind (ah.pr (s.str+1) d (0+1) h0) (b:=0) Ou fun u j h1 U=>bn b d (.mk s.kd Ox 0 [t,u]) j U;exact(this x j e).1.2
   ·have al:=aaO (q:=False) (I:=i - 1) aD hN (fun h=>h.elim) (n+1) b d t i Ou am;exact arR
theorem anU {b:Int}{d i:Nat}(am:i<l.length):Js O l.length (i+1) (U0 l F b d i) (U0 l' c8 b d i):=by
 unfold U0;rw[<-ah.fuel];exact Js.bind (ah.sg _ _ am) O6 fun t j h1 U=>agd aD aO ah hN F.fuel b d t j U
omit hN in
theorem alz {d i:Nat}(am:i<l.length):Js O l.length (i+1) (Tj l F d i) (Tj l' c8 d i):=by
 unfold Tj;refine Js.bind (ah.pr _ _ _ am) O6 fun t j h1 U=>?_;refine Js.ite (fun h=>by rw[VP aO h]) (fun ae=>?_) fun _=>Js.ok O6 U;have h0:=TK aD U ae Oz
 by_cases E:t.kd=23\/t.kd=36
 ·rw[if_pos E,if_pos E];exact Js.bind (Tz (ah.vl _ _ h0)) Ou fun v b' aw aL=>Js.ok O6 aL
 ·rw[if_neg E];exact Js.Tc
omit hN in
theorem anV {d i:Nat}(am:i<l.length):Js (O+1) l.length (i+1) (Wh l F d i) (Wh l' c8 d i):=by
 unfold Wh;exact az0
omit hN in
theorem anW {d i:Nat}(am:i+1<l.length)(mx:i<O):Js (O+1) l.length (i+1) (WG l F d i) (WG l' c8 d i):=by
 unfold WG;rw[<-aO i mx];refine Js.bind (Wj aD aO am) Ou fun s j h1 U=>?_;refine Js.le (a:=j+1) (Js.ite (fun h=>by rw[VP aO Ou]) (fun _=>Js.Tc) fun _=>?_) Ou;refine Js.ite (fun h=>by rw[VP aO Ou]) (fun ae=>?_) fun _=>?_
 ·have h0:=TK aD U ae Oz;refine Js.agb 1 (Tz (ah.vl _ _ h0)) Ou fun v b' aw aL=>?_;exact Js.bind (Rl aD aO aL Oz) O6 fun _ gr bE bX=>Js.ok O6 bX
 ·exact Js.bind (Rl aD aO U Oz) O6 fun _ gr bE bX=>Js.ok O6 bX
omit hN in
theorem ais {d i:Nat}(am:i+1<l.length)(mx:i<O):Js (O+1) l.length (i+1) (Rz l F d i) (Rz l' c8 d i):=by
 unfold Rz;rw[<-aO i mx];refine Js.bind (aag aD aO ah am) Ou fun v j h1 U=>?_;exact Js.bind (Tz (ah.st _ _ U)) Ou fun v b' aw aL=>Js.ok O6 aL
omit hN in
theorem ait (eC:Parts l l' O){d i:Nat}(am:i+1<l.length)(mx:i<O):Js (O+1) l.length (i+1) (Tn l F d i) (Tn l' c8 d i):=by
 unfold Tn;rw[<-aO i mx];refine Js.bind (aag aD aO ah am) Ou fun v j h1 U=>?_;refine Js.bind (Tz (ah.st _ _ U)) Ou fun v b' aw aL=>?_;refine Js.ite (fun h=>abP aO eC h (Or.inl rfl)) (fun ae=>?_) fun _=>Js.ok O6 aL;have h0:=TK aD aL ae Oz;exact Js.bind (Tz (ah.st _ _ h0)) Ou fun v gr bE bX=>Js.ok O6 bX
omit hN in
theorem aiu {d i:Nat}(am:i+1<l.length)(mx:i<O):Js (O+1) l.length (i+1) (TJ l F d i) (TJ l' c8 d i):=by
 unfold TJ;rw[<-aO i mx];refine Js.le (a:=i+2) (Js.ite (fun h=>by rw[VP aO Ou]) (fun _=>?_) fun _=>?_) Ou
 ·exact az0
 ·exact Js.bind (Rl aD aO am Oz) O6 fun _ b' aw aL=>Js.ok O6 aL
omit hN in
theorem alA (eC:Parts l l' O){d i:Nat}(am:i<l.length):Js (O+1) l.length i (VK l F d i) (VK l' c8 d i):=by
 unfold VK;refine Js.ite (fun h=>abP aO eC h (Or.inr (Or.inl rfl))) (fun ae=>?_) fun _=>Js.ok O6 am;have h0:=TK aD am ae Oz;refine Js.bind (Rl aD aO h0 Oz) Ou fun _ bK h1 U=>?_;refine Js.bind (Wj aD aO U) Ou fun _ b' aw aL=>?_;refine Js.bind (Rl aD aO aL Oz) Ou fun _ gr bE bX=>?_;exact Js.bind (Xb aD aO ah bX) Ou fun b wS fY fQ=>Js.ok O6 fQ
omit hN in
theorem agf (eC:Parts l l' O){d i:Nat}(am:i<l.length):Js (O+1) l.length i (SH l F d i) (SH l' c8 d i):=by
 unfold SH;refine Js.ite (fun h=>abP aO eC h (Or.inr (Or.inr rfl))) (fun ae=>?_) fun _=>Js.ok O6 am;have h0:=TK aD am ae Oz;exact Js.bind (Xb aD aO ah h0) Ou fun b wS fY fQ=>Js.ok O6 fQ
omit hN in
theorem agh (eC:Parts l l' O){d i:Nat}(am:i<l.length):Js (O+1) l.length (i+1) (SI l F d i) (SI l' c8 d i):=by
 unfold SI;refine Js.bind (Rl aD aO am Oz) O6 fun _ J9 h h0=>?_;refine Js.bind (Xb aD aO ah h0) Ou fun b bK h1 U=>?_;refine Js.bind (alA aD aO ah eC U) Ou fun c b' aw aL=>?_;refine Js.bind (agf aD aO ah eC aL) Ou fun f gr bE bX=>?_
 by_cases E:c.length+f.length=0
 ·rw[if_pos E];exact Js.Tc
 ·rw[if_neg E,if_neg E];exact Js.ok O6 bX
omit hN in
theorem anX (eC:Parts l l' O){d i c:Nat}(am:i+1<l.length)(mx:i<O):Js (O+1) l.length (i+1) (Wi l F d c i) (Wi l' c8 d c i):=by
 unfold Wi
 split
 ·exact anW aD aO ah am mx
 ·exact anT aD aO ah Ou
 ·exact Xb aD aO ah Ou
 ·exact Js.bind (Rl aD aO Ou Oz) O6 fun _ j h1 U=>Js.ok O6 U
 ·exact ait aD aO ah eC am mx
 ·exact ais aD aO ah am mx
 ·exact aiu aD aO ah am mx
 ·exact agh aD aO ah eC Ou
theorem adb (eC:Parts l l' O){d i:Nat}(am:i<l.length):Js (O+1) l.length (i+1) (PY l F d i) (PY l' c8 d i):=by
 by_cases h:i<O
 ·unfold PY;rw[<-VP aO h]
  split
  ·rename_i c aj
   exact anX aD aO ah eC (agi aD am aj Oz) h
  ·exact anV aD aO ah am
 ·have al:=YP (d:=d) aD hN am;exact arR
omit ah hN in
theorem avU (eC:Parts l l' O):∀ k,FJs l O (fns l k) (fns l' k):=by
 intro k
 induction k with
 | zero=>exact⟨rfl,fun _ _ _=>Js.out,fun _ _ _=>Js.out,fun _ _ _ _=>Js.out,fun _ _ _=>Js.out⟩
 | succ k bn=>exact⟨rfl,fun _ _ am=>adb aD aO bn (Xz aD k) eC am,fun _ _ am=>alz aD aO bn am,fun _ _ _ am=>anU aD aO bn (Xz aD k) am,fun _ _ am=>air aD aO bn (Xz aD k) am⟩
end
def Sh {α:Type}(O:Nat)(r hE:PR α):Prop:=(∀ x j,r=.ok x j->hE=.ok x (O+j))/\((∀ x j,r≠.ok x j)->∀ x j,hE≠.ok x j)
def Sh.ok {α:Type}{O i:Nat}{x:α}:Sh O (.ok x i) (.ok x (O+i)):=⟨fun _ _ h=>(by cases h;rfl),fun h=>absurd rfl (h _ _)⟩
section
variable {α:Type} {O:Nat}
include α O
def Sh.bad {er zZ:Int}{p cz:Nat}:Sh (α:=α) O (.bad er p) (.bad zZ cz):=⟨fun _ _ h=>(by cases h),fun _=>nofun⟩
def Sh.out:Sh (α:=α) O .out .out:=⟨fun _ _ h=>(by cases h),fun _=>nofun⟩
def Sh.Tc {l l':List Tk}{er zZ:Int}{i hk:Nat}:Sh (α:=α) O (Tc l er i) (Tc l' zZ hk):=Sh.bad
end
def Sh.bind {α β:Type}{O:Nat}{r hE:PR α}{f eH:α->Nat->PR β}(h:Sh O r hE)(aH:∀ x i,Sh O (f x i) (eH x (O+i))):Sh O (r.bind f) (hE.bind eH):=by
 cases r with
 | ok x i=>rw[h.1 x i rfl];exact aH x i
 | bad er p=>
  exact az1
 | out=>
  exact az1
def Sh.ite {α:Type}{O:Nat}{c en:Prop} [Decidable c] [Decidable en] {X Y vz vB:PR α}(aj:c↔en)(h1:Sh O X vz)(U:Sh O Y vB) :
  Sh O (if c then X else Y) (if en then vz else vB):=by
 by_cases h:c
 ·rw[if_pos h,if_pos (aj.1 h)];exact h1
 ·rw[if_neg h,if_neg (fun hh=>h (aj.2 hh))];exact U
structure Shifts (l l':List Tk)(O:Nat):Prop where
 kd:∀ i,(O9 l' (O+i)).kd=(O9 l i).kd
 tx:∀ i,(O9 l' (O+i)).tx=(O9 l i).tx
 n:∀ i,(O9 l' (O+i)).n=(O9 l i).n
section
variable {l l':List Tk} {O:Nat} (aO:Shifts l l' O)
include aO
theorem U2 {i:Nat}:fx l' (O+i)=fx l i:=by unfold fx;rw[aO.kd,aO.tx]
theorem QU {s:OH}{i:Nat}:Sh O (Pm l s i) (Pm l' s (O+i)):=by
 unfold Pm;exact Sh.ite (by rw[U2 aO]) Sh.ok Sh.Tc
theorem Wl {i:Nat}:Sh O (nameP l i) (nameP l' (O+i)):=by
 unfold nameP;rw[aO.tx];exact Sh.ite (by rw[aO.kd]) Sh.ok Sh.Tc
omit aO in
theorem SK {f eH:Nat->Nat->PR Tr}{d i:Nat}(h:Sh O (f (d+1) i) (eH (d+1) (O+i))):Sh O (PD l f d i) (PD l' eH d (O+i)):=by
 unfold PD;exact Sh.ite Iff.rfl Sh.Tc h
theorem agn {shut:OH}{begins oC:Nat->Bool}{part part':Nat->PR Tr}(D:∀ i,oC (O+i)=begins i)(al:∀ i,Sh O (part i) (part' (O+i))) :
  ∀ k aX i,Sh O (QN l shut begins part k aX i) (QN l' shut oC part' k aX (O+i)):=by
 intro k
 induction k with
 | zero=>intro aX i;exact Sh.out
 | succ k bn=>
  intro aX i;unfold QN;refine Sh.ite (by rw[D]) Sh.Tc (Sh.bind (al i) fun t j=>Sh.ite (by rw[U2 aO]) Sh.ok ?_);exact Sh.bind (QU aO) fun _ b'=>bn _ b'
theorem abR {opn shut:OH}{begins oC:Nat->Bool}{part part':Nat->PR Tr}{k i:Nat}(D:∀ i,oC (O+i)=begins i)(al:∀ i,Sh O (part i) (part' (O+i))) :
  Sh O (UQ l opn shut begins part k i) (UQ l' opn shut oC part' k (O+i)):=by
 unfold UQ;exact Sh.bind (QU aO) fun _ j=>Sh.ite (by rw[U2 aO]) Sh.ok (agn aO D al k [] j)
theorem aai {i:Nat}:isName l' (O+i)=isName l i:=by unfold isName;rw[aO.kd]
theorem an3 {i:Nat}:isVal l' (O+i)=isVal l i:=by unfold isVal;rw[U2 aO,aO.kd]
structure FSh (O:Nat)(F c8:SX):Prop where
 fuel:c8.fuel=F.fuel
 st:∀ d i,Sh O (F.st d i) (c8.st d (O+i))
 vl:∀ d i,Sh O (F.vl d i) (c8.vl d (O+i))
 pr:∀ b d i,Sh O (F.pr b d i) (c8.pr b d (O+i))
 sg:∀ d i,Sh O (F.sg d i) (c8.sg d (O+i))
variable {F c8:SX} (ah:FSh O F c8)
include ah
theorem aeC:∀ n d aX i,Sh O (Qa l F d n aX i) (Qa l' c8 d n aX (O+i)):=by
 intro n
 induction n with
 | zero=>intro d aX i;exact Sh.out
 | succ n bn=>
  intro d aX i;unfold Qa;exact Sh.ite (by rw[U2 aO]) Sh.ok (Sh.bind (SK (ah.st _ _)) fun t j=>bn d _ j)
theorem Xd {d i:Nat}:Sh O (PX l F d i) (PX l' c8 d (O+i)):=by
 unfold PX;rw[ah.fuel];exact Sh.bind (QU aO) fun _ j=>Sh.bind (aeC aO ah _ _ _ _) fun _ _=>Sh.ok
omit ah in
theorem alE {i:Nat}:Sh O (Td l i) (Td l' (O+i)):=by
 unfold Td;exact Sh.bind (Wl aO) fun _ _=>Sh.ok
theorem aiB {i:Nat}:Sh O (QY l F i) (QY l' c8 (O+i)):=by
 unfold QY;rw[ah.fuel];exact Sh.bind (abR aO (fun _=>aai aO) fun _=>alE aO) fun _ _=>Sh.ok
omit aO in
theorem arS {d i:Nat}:Sh O (aaZ l F d i) (aaZ l' c8 d (O+i)):=SK (ah.vl _ _)
theorem an4 {d i:Nat}:Sh O (UZ l F d i) (UZ l' c8 d (O+i)):=by
 unfold UZ;exact Sh.bind (Wl aO) fun _ _=>Sh.bind (QU aO) fun _ _=>Sh.bind (SK (ah.vl _ _)) fun _ _=>Sh.ok
theorem aaj {d i:Nat}:Sh O (SC l F d i) (SC l' c8 d (O+i)):=by
 unfold SC;exact Sh.bind (QU aO) fun _ _=>Sh.bind (SK (ah.vl _ _)) fun _ _=>Sh.bind (QU aO) fun _ _=>Sh.ok
theorem aiC {d i:Nat}:Sh O (Tf l F d i) (Tf l' c8 d (O+i)):=by
 unfold Tf;rw[ah.fuel];exact Sh.bind (abR aO (fun _=>aai aO) fun _=>an4 aO ah) fun _ _=>Sh.ok
theorem Yb {kd:Int}{s:OH}{d i:Nat}:Sh O (Qy l F kd s d i) (Qy l' c8 kd s d (O+i)):=by
 unfold Qy;exact Sh.bind (aiB aO ah) fun _ _=>Sh.bind (Xd aO ah) fun _ _=>Sh.ok
theorem aiD {d i:Nat}:Sh O (Ti l F d i) (Ti l' c8 d (O+i)):=by
 unfold Ti;exact Sh.bind (QU aO) fun _ _=>Sh.ite (by rw[aai aO]) (Sh.bind (Wl aO) fun _ _=>Yb aO ah) (Yb aO ah)
theorem an5 {d i:Nat}:Sh O (V9 l F d i) (V9 l' c8 d (O+i)):=by
 unfold V9;exact Sh.bind (QU aO) fun _ _=>Sh.bind (Wl aO) fun _ _=>Yb aO ah
theorem alF {d i:Nat}:Sh O (SE l F d i) (SE l' c8 d (O+i)):=by
 unfold SE;rw[U2 aO,aO.kd,aO.tx,aO.n]
 split
 ·exact aaj aO ah
 ·exact aiC aO ah
 ·exact aiD aO ah
 ·split
  ·exact Sh.ok
  ·exact Sh.ite Iff.rfl Sh.ok (Sh.ite Iff.rfl Sh.ok (Sh.ite Iff.rfl Sh.ok Sh.Tc))
theorem aeD:∀ n d t i,Sh O (Qr l F d n t i) (Qr l' c8 d n t (O+i)):=by
 intro n
 induction n with
 | zero=>intro d aX i;exact Sh.out
 | succ n bn=>
  intro d t i;unfold Qr;rw[ah.fuel];refine Sh.ite (by rw[U2 aO]) (Sh.bind (Wl aO (i:=i+1)) fun _ _=>bn _ _ _) (Sh.ite (by rw[U2 aO]) ?_ Sh.ok);exact Sh.bind (abR aO (fun _=>an3 aO) fun _=>arS ah) fun _ _=>bn _ _ _
theorem alG {d i:Nat}:Sh O (SG l F d i) (SG l' c8 d (O+i)):=by
 unfold SG;rw[ah.fuel];exact Sh.bind (alF aO ah) fun _ _=>aeD aO ah _ _ _ _
theorem aiE {d i:Nat}:Sh O (Ry l F d i) (Ry l' c8 d (O+i)):=by
 unfold Ry;rw[U2 aO]
 split
 ·exact Sh.bind (SK (i:=i+1) (ah.sg _ _)) fun _ _=>Sh.ok
 ·exact alG aO ah
theorem agp:∀ n b d t i,Sh O (QO l F b d n t i) (QO l' c8 b d n t (O+i)):=by
 intro n
 induction n with
 | zero=>intro b d aX i;exact Sh.out
 | succ n bn=>
  intro b d t i;unfold QO;rw[U2 aO]
  split
  ·exact Sh.ok
  ·exact Sh.ite Iff.rfl Sh.ok (Sh.bind (ah.pr _ _ (i+1)) fun _ _=>bn _ _ _ _)
theorem an6 {b:Int}{d i:Nat}:Sh O (U0 l F b d i) (U0 l' c8 b d (O+i)):=by
 unfold U0;rw[ah.fuel];exact Sh.bind (ah.sg _ _) fun _ _=>agp aO ah _ _ _ _ _
section
variable {d i:Nat}
include d i
theorem alH:Sh O (Tj l F d i) (Tj l' c8 d (O+i)):=by
 unfold Tj;exact Sh.bind (ah.pr _ _ _) fun _ j=>Sh.ite (by rw[U2 aO]) (Sh.ite Iff.rfl (Sh.bind (SK (i:=j+1) (ah.vl _ _)) fun _ _=>Sh.ok) Sh.Tc) Sh.ok
theorem an7:Sh O (Wh l F d i) (Wh l' c8 d (O+i)):=by
 unfold Wh;exact Sh.bind (SK (ah.vl _ _)) fun _ _=>Sh.bind (QU aO) fun _ _=>Sh.ok
theorem an8:Sh O (WG l F d i) (WG l' c8 d (O+i)):=by
 unfold WG;rw[aO.tx];refine Sh.bind (Wl aO (i:=i+1)) fun _ j=>Sh.ite (by rw[U2 aO]) Sh.Tc (Sh.ite (by rw[U2 aO]) ?_ ?_)
 ·exact Sh.bind (SK (i:=j+1) (ah.vl _ _)) fun _ _=>Sh.bind (QU aO) fun _ _=>Sh.ok
 ·exact Sh.bind (QU aO) fun _ _=>Sh.ok
theorem aiF:Sh O (Rz l F d i) (Rz l' c8 d (O+i)):=by
 unfold Rz;rw[aO.tx];exact Sh.bind (aaj aO ah (i:=i+1)) fun _ _=>Sh.bind (SK (ah.st _ _)) fun _ _=>Sh.ok
theorem aiG:Sh O (Tn l F d i) (Tn l' c8 d (O+i)):=by
 unfold Tn;rw[aO.tx];exact Sh.bind (aaj aO ah (i:=i+1)) fun _ _=>Sh.bind (SK (ah.st _ _)) fun _ j=>Sh.ite (by rw[U2 aO]) (Sh.bind (SK (i:=j+1) (ah.st _ _)) fun _ _=>Sh.ok) Sh.ok
theorem aiH:Sh O (TJ l F d i) (TJ l' c8 d (O+i)):=by
 unfold TJ;rw[aO.tx];refine Sh.ite (by rw[show O+i+1=O+(i+1) from rfl,U2 aO]) ?_ ?_
 ·exact Sh.bind (SK (i:=i+1) (ah.vl _ _)) fun _ _=>Sh.bind (QU aO) fun _ _=>Sh.ok
 ·exact Sh.bind (QU aO (i:=i+1)) fun _ _=>Sh.ok
theorem alI:Sh O (VK l F d i) (VK l' c8 d (O+i)):=by
 unfold VK;exact Sh.ite (by rw[U2 aO]) (Sh.bind (QU aO (i:=i+1)) fun _ _=>Sh.bind (Wl aO) fun _ _=>Sh.bind (QU aO) fun _ _=>Sh.bind (Xd aO ah) fun _ _=>Sh.ok) Sh.ok
theorem agq:Sh O (SH l F d i) (SH l' c8 d (O+i)):=by
 unfold SH;exact Sh.ite (by rw[U2 aO]) (Sh.bind (Xd aO ah (i:=i+1)) fun _ _=>Sh.ok) Sh.ok
theorem agr:Sh O (SI l F d i) (SI l' c8 d (O+i)):=by
 unfold SI;exact Sh.bind (QU aO) fun _ _=>Sh.bind (Xd aO ah) fun _ _=>Sh.bind (alI aO ah) fun _ _=>Sh.bind (agq aO ah) fun _ _=>Sh.ite Iff.rfl Sh.Tc Sh.ok
end
theorem an9 {d i c:Nat}:Sh O (Wi l F d c i) (Wi l' c8 d c (O+i)):=by
 unfold Wi
 split
 ·exact an8 aO ah
 ·exact an5 aO ah
 ·exact Xd aO ah
 ·exact Sh.bind (QU aO) fun _ _=>Sh.ok
 ·exact aiG aO ah
 ·exact aiF aO ah
 ·exact aiH aO ah
 ·exact agr aO ah
theorem ade {d i:Nat}:Sh O (PY l F d i) (PY l' c8 d (O+i)):=by
 unfold PY;rw[U2 aO]
 split
 ·exact an9 aO ah
 ·exact an7 aO ah
omit ah in
theorem avV:∀ k,FSh O (fns l k) (fns l' k):=by
 intro k
 induction k with
 | zero=>exact⟨rfl,fun _ _=>Sh.out,fun _ _=>Sh.out,fun _ _ _=>Sh.out,fun _ _=>Sh.out⟩
 | succ k bn=>exact⟨rfl,fun _ _=>ade aO bn,fun _ _=>alH aO bn,fun _ _ _=>an6 aO bn,fun _ _=>aiE aO bn⟩
end
namespace Hp
section
open Go.RowKit Go.Extern.Stop Go.Stop Go.Extern
def at_one (v:OG)(f:OG->Sem OG)(g:Array OG->Sem OG):@ReflectliteValue.method.match_2 (fun _=>Sem OG) #[v] f g=f v:=rfl
def anq (v x:OG)(f:OG->OG->Sem OG)(g:Array OG->Sem OG):@ReflectliteValue.set.match_3 (fun _=>Sem OG) #[v,x] f g=f v x:=rfl
def R9.ak9 (t:Addr)(w:Ov):(ReflectliteValue.unpack (.iface 86 (.pointer (some t)))).run prog w
  = .ok (.agg #[OM 13 86,OM w.heap.size 0,.int .u64 150]) (w.alloc (.cells #[.pointer (some t)] 86)):=by kernel_rfl
def R9.ak8 (n:Int)(w:Ov):(ReflectliteValue.unpack (.iface 34 (Ol n))).run prog w
  = .ok (.agg #[OM 13 34,OM w.heap.size 0,.int .u64 130]) (w.alloc (.cells #[Ol n] 34)):=by kernel_rfl
def R9.avq (a : Addr) (w : Ov) : (ReflectliteValue.methodAny (ReflectliteValue.valueError "reflectlite.Value.Type" 0) (fun t _ _ _ => ReflectliteType.toType t) #[.agg #[OM 13 86, .pointer (some a), .int .u64 150]]).run prog w
  = .ok (.iface 215 (.agg #[OM 13 86])) w:=by kernel_rfl
def R9.avr (w:Ov):((ReflectliteType.abiMethod fun t=>(fun a:Nat=>Value.int IntKind.u8 (a:Int)) <$> Rtype.kind t) #[OM 13 86]).run prog w=.ok (.int .u8 22) w:=by kernel_rfl
def R9.avs (w:Ov):((ReflectliteType.abiMethod fun t=>(fun a:Nat=>Value.int IntKind.u8 (a:Int)) <$> Rtype.kind t) #[OM 13 34]).run prog w=.ok (.int .u8 2) w:=by kernel_rfl
def R9.akb (a:Addr)(w:Ov):(ReflectliteValue.parts (.agg #[OM 13 86,.pointer (some a),.int .u64 150])).run prog w=.ok (some (86,a,150)) w:=by kernel_rfl
def R9.aq9 (a p:Addr)(W:Ov)(ax:W.cell? a=some (.pointer (some p))) :
  (ReflectliteValue.method (ReflectliteValue.valueError "reflectlite.Value.IsNil" 0) ReflectliteValue.isNil #[.agg #[OM 13 86, .pointer (some a), .int .u64 150]]).run prog W = .ok (OC false) W := by
 delta ReflectliteValue.method
 rw[at_one];simp only[Sem.run_bind,R9.akb,Result.andThen];simp[ReflectliteValue.isNil,loadVar,isAgg,underlying,underlying86,ax,Result.andThen]
def R9.avt (w:Ov):(ReflectliteType.method ReflectliteType.elem #[.agg #[OM 13 86]]).run prog w=.ok (.iface 215 (.agg #[OM 13 34])) w:=by kernel_rfl
def R9.aek (w : Ov) : (ReflectliteType.relation "Implements" ReflectliteType.implements_ #[.agg #[OM 13 34], .iface 215 (.agg #[OM 13 31])]).run prog w = .ok (OC true) w := by kernel_rfl
def R9.afW (v:OG)(w:Ov):(ReflectliteType.typeOf #[.iface 34 v]).run prog w=.ok (.iface 215 (.agg #[OM 13 34])) w:=by kernel_rfl
def R9.anr (w:Ov):(Rtype.elem? 86).run prog w=.ok (some 34) w:=by kernel_rfl
def R9.aGa (p:Addr)(w:Ov):(ReflectliteValue.mk 34 p ReflectliteValue.flagAddr).run prog w=.ok (.agg #[OM 13 34,.pointer (some p),.int .u64 386]) w:=by kernel_rfl
def R9.aq6 (a p:Addr)(W:Ov)(ax:W.cell? a=some (.pointer (some p))) :
  (ReflectliteValue.method (ReflectliteValue.valueError "reflectlite.Value.Elem" 0) ReflectliteValue.elem #[.agg #[OM 13 86, .pointer (some a), .int .u64 150]]).run prog W
   = .ok (.agg #[OM 13 34,.pointer (some p),.int .u64 386]) W:=by
 delta ReflectliteValue.method
 rw[at_one];simp only[Sem.run_bind,R9.akb,Result.andThen];simp[ReflectliteValue.elem,loadVar,isAgg,underlying,underlying86,ax,Result.andThen,R9.anr,R9.aGa]
def R9.ant (a:Addr)(w:Ov):(ReflectliteValue.parts (.agg #[OM 13 34,.pointer (some a),.int .u64 386])).run prog w=.ok (some (34,a,386)) w:=by kernel_rfl
def R9.arh (a:Addr)(w:Ov):(ReflectliteValue.parts (.agg #[OM 13 34,.pointer (some a),.int .u64 130])).run prog w=.ok (some (34,a,130)) w:=by kernel_rfl
def R9.anu (w:Ov):(Rtype.directlyAssignable 34 34).run prog w=.ok true w:=by kernel_rfl
def R9.aza (ta b:Addr)(n:Int)(old:OG)(W:Ov)(D:W.cell? b=some (Ol n))(bc:W.cell? ta=some old)(aH:W.frozen? ta=false) :
  (ReflectliteValue.set #[.agg #[OM 13 34,.pointer (some ta),.int .u64 386],.agg #[OM 13 34,.pointer (some b),.int .u64 130]]).run prog W
   = .ok (.tuple #[]) (W.setCell ta (Ol n)):=by
 delta ReflectliteValue.set
 rw[anq];simp only[Sem.run_bind,R9.ant,R9.arh,Result.andThen];simp[ReflectliteValue.flagAddr,loadVar,isAgg,underlying,underlying34,D,Result.andThen,R9.anu,storeVar,Value.cells,storeCells,Addr.add];rw[run_store prog W ta _ _ (by rfl)];simp[bc,aH]
def R9.aia (t:Addr)(w:Ov):(ReflectliteValue.unpack (.iface 123 (.pointer (some t)))).run prog w
  = .ok (.agg #[OM 13 123,OM w.heap.size 0,.int .u64 150]) (w.alloc (.cells #[.pointer (some t)] 123)):=by kernel_rfl
def R9.ah9 (p:Addr)(w:Ov):(ReflectliteValue.unpack (.iface 122 (.pointer (some p)))).run prog w
  = .ok (.agg #[OM 13 122,OM w.heap.size 0,.int .u64 150]) (w.alloc (.cells #[.pointer (some p)] 122)):=by kernel_rfl
def R9.ari (a : Addr) (w : Ov) : (ReflectliteValue.methodAny (ReflectliteValue.valueError "reflectlite.Value.Type" 0) (fun t _ _ _ => ReflectliteType.toType t) #[.agg #[OM 13 123, .pointer (some a), .int .u64 150]]).run prog w
  = .ok (.iface 215 (.agg #[OM 13 123])) w:=by kernel_rfl
def R9.arj (w:Ov):((ReflectliteType.abiMethod fun t=>(fun a:Nat=>Value.int IntKind.u8 (a:Int)) <$> Rtype.kind t) #[OM 13 123]).run prog w=.ok (.int .u8 22) w:=by kernel_rfl
def R9.ark (w:Ov):((ReflectliteType.abiMethod fun t=>(fun a:Nat=>Value.int IntKind.u8 (a:Int)) <$> Rtype.kind t) #[OM 13 122]).run prog w=.ok (.int .u8 22) w:=by kernel_rfl
def R9.afY (a:Addr)(w:Ov):(ReflectliteValue.parts (.agg #[OM 13 123,.pointer (some a),.int .u64 150])).run prog w=.ok (some (123,a,150)) w:=by kernel_rfl
def R9.anv (a p:Addr)(W:Ov)(ax:W.cell? a=some (.pointer (some p))) :
  (ReflectliteValue.method (ReflectliteValue.valueError "reflectlite.Value.IsNil" 0) ReflectliteValue.isNil #[.agg #[OM 13 123, .pointer (some a), .int .u64 150]]).run prog W = .ok (OC false) W := by
 delta ReflectliteValue.method
 rw[at_one];simp only[Sem.run_bind,R9.afY,Result.andThen];simp[ReflectliteValue.isNil,loadVar,isAgg,underlying,underlying123,ax,Result.andThen]
def R9.arl (w:Ov):(ReflectliteType.method ReflectliteType.elem #[.agg #[OM 13 123]]).run prog w=.ok (.iface 215 (.agg #[OM 13 122])) w:=by kernel_rfl
def R9.ac8 (w : Ov) : (ReflectliteType.relation "Implements" ReflectliteType.implements_ #[.agg #[OM 13 122], .iface 215 (.agg #[OM 13 31])]).run prog w = .ok (OC true) w := by kernel_rfl
def R9.alb (v:OG)(w:Ov):(ReflectliteType.typeOf #[.iface 122 v]).run prog w=.ok (.iface 215 (.agg #[OM 13 122])) w:=by kernel_rfl
def R9.alc (w:Ov):(Rtype.elem? 123).run prog w=.ok (some 122) w:=by kernel_rfl
def R9.azg (p:Addr)(w:Ov):(ReflectliteValue.mk 122 p ReflectliteValue.flagAddr).run prog w=.ok (.agg #[OM 13 122,.pointer (some p),.int .u64 406]) w:=by kernel_rfl
def R9.anp (a p:Addr)(W:Ov)(ax:W.cell? a=some (.pointer (some p))) :
  (ReflectliteValue.method (ReflectliteValue.valueError "reflectlite.Value.Elem" 0) ReflectliteValue.elem #[.agg #[OM 13 123, .pointer (some a), .int .u64 150]]).run prog W
   = .ok (.agg #[OM 13 122,.pointer (some p),.int .u64 406]) W:=by
 delta ReflectliteValue.method
 rw[at_one];simp only[Sem.run_bind,R9.afY,Result.andThen];simp[ReflectliteValue.elem,loadVar,isAgg,underlying,underlying123,ax,Result.andThen,R9.alc,R9.azg]
def R9.ald (a:Addr)(w:Ov):(ReflectliteValue.parts (.agg #[OM 13 122,.pointer (some a),.int .u64 406])).run prog w=.ok (some (122,a,406)) w:=by kernel_rfl
def R9.anw (a:Addr)(w:Ov):(ReflectliteValue.parts (.agg #[OM 13 122,.pointer (some a),.int .u64 150])).run prog w=.ok (some (122,a,150)) w:=by kernel_rfl
def R9.ale (w:Ov):(Rtype.directlyAssignable 122 122).run prog w=.ok true w:=by kernel_rfl
def R9.avv (ta b:Addr)(p:Addr)(old:OG)(W:Ov)(D:W.cell? b=some (.pointer (some p)))(bc:W.cell? ta=some old)(aH:W.frozen? ta=false) :
  (ReflectliteValue.set #[.agg #[OM 13 122,.pointer (some ta),.int .u64 406],.agg #[OM 13 122,.pointer (some b),.int .u64 150]]).run prog W
   = .ok (.tuple #[]) (W.setCell ta (.pointer (some p))):=by
 delta ReflectliteValue.set
 rw[anq];simp only[Sem.run_bind,R9.ald,R9.anw,Result.andThen];simp[ReflectliteValue.flagAddr,loadVar,isAgg,underlying,underlying122,D,Result.andThen,R9.ale,storeVar,Value.cells,storeCells,Addr.add];rw[run_store prog W ta _ _ (by rfl)];simp[bc,aH]
def R9.ala (v:OG)(w:Ov):(ReflectliteType.typeOf #[.iface 359 v]).run prog w=.ok (.iface 215 (.agg #[OM 13 359])) w:=by kernel_rfl
def R9.aaX (w : Ov) : (ReflectliteType.relation "AssignableTo" ReflectliteType.assignableTo #[.agg #[OM 13 34], .iface 215 (.agg #[OM 13 34])]).run prog w = .ok (OC true) w := by kernel_rfl
def R9.Zu (w : Ov) : (ReflectliteType.relation "AssignableTo" ReflectliteType.assignableTo #[.agg #[OM 13 122], .iface 215 (.agg #[OM 13 122])]).run prog w = .ok (OC true) w := by kernel_rfl
def R9.Z8 (w : Ov) : (ReflectliteType.relation "AssignableTo" ReflectliteType.assignableTo #[.agg #[OM 13 34], .iface 215 (.agg #[OM 13 122])]).run prog w = .ok (OC false) w := by kernel_rfl
def R9.Zr (w : Ov) : (ReflectliteType.relation "AssignableTo" ReflectliteType.assignableTo #[.agg #[OM 13 359], .iface 215 (.agg #[OM 13 122])]).run prog w = .ok (OC false) w := by kernel_rfl
section
variable (h:OG) (w:Ov)
include h w
def R9.azh : (Go.method 493 215 (.agg #[h]) "Kind").run prog w = .ok (371, h) w := by kernel_rfl
def R9.azi : (Go.method 493 215 (.agg #[h]) "Elem").run prog w = .ok (385, .agg #[h]) w := by kernel_rfl
def R9.azj : (Go.method 493 215 (.agg #[h]) "Implements").run prog w = .ok (386, .agg #[h]) w := by kernel_rfl
def R9.arn : (Go.method 493 215 (.agg #[h]) "AssignableTo").run prog w = .ok (383, .agg #[h]) w := by kernel_rfl
