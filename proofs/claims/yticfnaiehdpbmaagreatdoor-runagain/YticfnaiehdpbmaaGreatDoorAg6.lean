import Derived.Test.YticfnaiehdpbmaaGreatDoorAg4
import Derived.Laws.OwnMore
import Derived.Deep.AppendLies
set_option maxRecDepth 100000
set_option maxHeartbeats 8000000
set_option linter.unusedVariables false
namespace Go.Proofs.YticfnaiehdpbmaaGreatDoor
open Go.RowKit Go.Proofs.Tryz
namespace Hp
theorem Pv {w:Ny}{base:Nat}{e:TypeId}{size:Nat}{v:NP}{n:Nat}{xs:List NP}(h:w.ownsRow base e size v n xs):v=PG/\n=0\/∃ g cap,v=.slice (some (Nv g 0)) n cap:=by
 rcases h.2 with h|⟨g,cap,_,h,_⟩
 ·exact .inl h
 ·exact .inr ⟨g,cap,h⟩
theorem cell_below {w wr:Ny}{B:Nat}(h:Below B w wr){a:Addr}(D:a.block<B):wr.cell? a=w.cell? a:=World.cell?_of_block (h.block a.block D)
theorem grown_of {w w':Ny}(D:NJ w w'):w.grownBy w' none:=⟨D.os,D.tape,D.output,D.size,fun k E _=>D.block k E⟩
theorem N9 {w w':Ny}{base:Nat}{e:TypeId}{size:Nat}{v:NP}{n:Nat}{xs:List NP}(h:w.ownsRow base e size v n xs)(D:NJ w w'):w'.ownsRow base e size v n xs:=
 h.kept (grown_of D) (by cases v.ownBlock <;> simp)
theorem OZ {w:Ny}{base:Nat}{e:TypeId}{size:Nat}{v:NP}{n:Nat}{xs:List NP}(h:w.ownsRow base e size v n xs){k:Nat}(E:v.ownBlock=some k):∃ cl,w.heap[k]? = some (Og cl e):=by
 rcases h.2 with ⟨rfl,_⟩|⟨g,cap,cl,rfl,_,hg,_⟩
 ·simp[Value.ownBlock] at E
 ·simp[Value.ownBlock] at E;subst E;exact⟨cl,hg⟩
theorem PW {w:Ny}{j k:Nat}{c ft:Array NP}{e hY:TypeId}{bE jh:Nat × Nat}(h:w.heap[j]? = some (.cells c e bE))(fj:w.heap[k]? = some (.cells ft hY jh))(ci:e≠hY):j≠k:=by
 rintro rfl;rw[h] at fj;simp at fj;exact ci fj.2.1
structure OB (T:List TypeId)(B:Nat)(w w':Ny):Prop where
 below:Below B w w'
 rest:∀ (b:Nat) c (e:TypeId),w.heap[b]? = some (Og c e)->e ∉ T->w'.heap[b]? = some (Og c e)
theorem OB.of {T:List TypeId}{B:Nat}{w w':Ny}(D:NJ w w')(aZ:B<=w.heap.size):OB T B w w':=
 ⟨D.mono aZ,fun b _ _ h _=>(D.block b (lt_of_block h)).trans h⟩
theorem OB.trans {T:List TypeId}{B:Nat}{a b c:Ny}(h:OB T B a b)(k:OB T B b c):OB T B a c:=⟨h.below.trans k.below,fun x y e bE q=>k.rest x y e (h.rest x y e bE q) q⟩
theorem OB.mono {T CP:List TypeId}{B B':Nat}{w w':Ny}(h:OB T B w w')(dA:∀ e ∈ T,e ∈ CP)(aZ:B'<=B):OB CP B' w w':=⟨h.below.mono aZ,fun b c e D au=>h.rest b c e D fun q=>au (dA e q)⟩
section
variable {T:List TypeId}
include T
theorem OB.grown {B:Nat}{w w':Ny}{row:Option Nat}(hg:w.grownBy w' row)(aZ:B<=w.heap.size)(h:∀ k,row=some k->B<=k/\∃ c e,w.heap[k]? = some (Og c e)/\e ∈ T):OB T B w w':=by
 refine⟨⟨hg.os,hg.tape,hg.output,hg.size,fun k E=>?_⟩,fun b _ hY D au=>?_⟩
 ·exact hg.block k (Nat.lt_of_lt_of_le E aZ) (fun e=>by have:=(h k e.symm).1;omega)
 ·refine(hg.block b (lt_of_block D) (fun e=>?_)).trans D;obtain⟨_,ft,KO,h1,O⟩:=h b e.symm;exact PW h1 D (by rintro rfl;exact au O) rfl
theorem OB.setCell {B:Nat}{w w':Ny}(h:OB T B w w'){g j:Nat}{c:Array NP}{e:TypeId}(hg:w'.heap[g]? = some (Og c e))(au:e ∈ T)(aZ:B<=g)(u:NP):OB T B w (w'.setCell (Nv g j) u):=by
 refine⟨h.below.setCell (p:=(Nv g j)) aZ _,fun b d hY D tP=>?_⟩;have h1:=h.rest b d hY D tP;rw[heap_setCell_other _ _ _ _ (by exact(PW hg h1 (by rintro rfl;exact tP au)).symm)]
 exact h1
theorem N7 {B B':Nat}{w w':Ny}{e:TypeId}{size:Nat}{v:NP}{n:Nat}{xs:List NP}(h:w.ownsRow B e size v n xs)(f:OB T B' w w')(au:e ∉ T):w'.ownsRow B e size v n xs:=by
 refine⟨h.1,?_⟩
 rcases h.2 with aA|⟨g,cap,cl,ap,D,hg,rest⟩
 ·exact Or.inl aA
 ·exact Or.inr ⟨g,cap,cl,ap,D,f.rest g cl e hg au,rest⟩
end
structure El where
 hd:List NP
 n:Nat
 xs:List NP
def flat:List El->List NP->List NP
 | e::es,v::vs=>e.hd++v::flat es vs
 | _,_=>[]
theorem flat_get {so:Nat}:∀ (es:List El) (vs:List NP) (i j:Nat) (e:El) (v:NP),(∀ e ∈ es,e.hd.length+1=so)->es[i]? = some e->vs[i]? = some v->j<so->(flat es vs)[i * so+j]? =(e.hd++[v])[j]?
 | [],_,i,j,e,v,_,h,_,_=>by simp at h
 | _::_,[],i,j,e,v,_,_,h,_=>by simp at h
 | a::es,b::vs,0,j,e,v,hl,h,fj,aT=>by
  simp at h fj;subst h fj;have:=hl a Oq
  show (a.hd++b::flat es vs)[0 * so+j]? = _
  rw[Nat.zero_mul,Nat.zero_add,show a.hd++b::flat es vs=(a.hd++[b])++flat es vs by simp,List.getElem?_append_left Qa]
 | a::es,b::vs,i+1,j,e,v,hl,h,fj,aT=>by
  have U:=flat_get es vs i j e v (fun x ac=>hl x (by simp[ac])) (by simpa using h) (by simpa using fj) aT;have:=hl a Oq
  show (a.hd++b::flat es vs)[(i+1) * so+j]? = _
  rw[show a.hd++b::flat es vs=(a.hd++[b])++flat es vs by simp,show (i+1) * so+j=(a.hd++[b]).length+(i * so+j) by simp[Nat.add_mul];omega,List.getElem?_append_right Nw,Nat.add_sub_cancel_left]
  exact U
theorem ae0:∀ (es vm:List El) (vs wP:List NP),vs.length=es.length->flat (es++vm) (vs++wP)=flat es vs++flat vm wP
 | [],vm,[],wP,_=>by simp[flat]
 | [],_,_::_,_,h=>by simp at h
 | _::_,_,[],_,h=>by simp at h
 | a::es,vm,b::vs,wP,h=>by
  have:=ae0 es vm vs wP (by simpa using h);simp[flat,this]
theorem aaJ {so:Nat}:∀ (es:List El) (vs:List NP) (i:Nat) (e hY:El) (v:NP),(∀ e ∈ es,e.hd.length+1=so)->vs.length=es.length->es[i]? = some e->hY.hd=e.hd->flat (es.set i hY) (vs.set i v)=(flat es vs).set (i * so+(so - 1)) v
 | [],_,i,e,hY,v,_,_,h,_=>by simp at h
 | _::_,[],i,e,hY,v,_,h,_,_=>by simp at h
 | a::es,b::vs,0,e,hY,v,hl,_,h,aM=>by
  simp at h;subst h;have:=hl a Oq
  show hY.hd++v::flat es vs=(a.hd++b::flat es vs).set (0 * so+(so - 1)) v
  rw[aM,Nat.zero_mul,Nat.zero_add,List.set_append_right _ _ Nw,show so - 1 - a.hd.length=0 by omega];rfl
 | a::es,b::vs,i+1,e,hY,v,hl,hlen,h,aM=>by
  have U:=aaJ es vs i e hY v (fun x ac=>hl x (by simp[ac])) (by simpa using hlen) (by simpa using h) aM;have:=hl a Oq
  show a.hd++b::flat (es.set i hY) (vs.set i v)=(a.hd++b::flat es vs).set ((i+1) * so+(so - 1)) v
  rw[U,show (i+1) * so+(so - 1)=a.hd.length+((i * so+(so - 1))+1) by simp[Nat.add_mul];omega,List.set_append_right _ _ Nw,Nat.add_sub_cancel_left]
  rfl
structure Tb (B:Nat)(jp:TypeId)(so:Nat)(hZ:TypeId)(kv:Nat)(w:Ny)(tv:NP)(es:List El)(vs:List NP):Prop where
 row:w.ownsRow B jp so tv es.length (flat es vs)
 len:vs.length=es.length
 hl:∀ e ∈ es,e.hd.length+1=so
 own:∀ (i:Nat) e v,es[i]? = some e->vs[i]? = some v->w.ownsRow B hZ kv v e.n e.xs
 apart:∀ (i j:Nat) a b g,vs[i]? = some a->vs[j]? = some b->a.ownBlock=some g->b.ownBlock=some g->i=j
 ne:jp≠hZ
section
variable {B:Nat} {jp:TypeId} {so:Nat} {hZ:TypeId} {kv:Nat} {w w':Ny} {tv:NP} {es:List El} {vs:List NP}
theorem Tb.nil (ci:jp≠hZ):Tb B jp so hZ kv w PG [] []:=
 ⟨World.ownsRow_nil _ _ _ _,rfl,fun e h=>by simp at h,fun i s v h=>by simp at h,fun i j a b g h=>by simp at h,ci⟩
theorem Tb.later (h:Tb B jp so hZ kv w tv es vs)(D:NJ w w'):Tb B jp so hZ kv w' tv es vs:=
 ⟨N9 h.row D,h.len,h.hl,fun i s v a b=>N9 (h.own i s v a b) D,h.apart,h.ne⟩
theorem Tb.keep {T:List TypeId}{B':Nat}(h:Tb B jp so hZ kv w tv es vs)(f:OB T B' w w')(h1:jp ∉ T)(O:hZ ∉ T):Tb B jp so hZ kv w' tv es vs:=
 ⟨N7 h.row f h1,h.len,h.hl,fun i s v a b=>N7 (h.own i s v a b) f O,h.apart,h.ne⟩
section
variable (h:Tb B jp so hZ kv w tv es vs) {i:Nat}
include h i
theorem Tb.at_ {e:El}(ay:es[i]? = some e) :
  ∃ g cap v,tv=.slice (some (Nv g 0)) es.length cap/\i<es.length/\vs[i]? = some v/\(∀ j u,(e.hd++[v])[j]? = some u->w.cell? (Nv g (i * so+j))=some u)/\w.ownsRow B hZ kv v e.n e.xs/\g<w.heap.size/\B<=g/\(∀ j,w.frozen? (Nv g j)=false)/\e.hd.length+1=so:=by
 have aQ:i<es.length:=(List.getElem?_eq_some_iff.1 ay).1;obtain⟨v,ap⟩:∃ v,vs[i]? = some v:=⟨_,List.getElem?_eq_getElem (by rw[h.len];exact aQ)⟩
 have vL:=h.hl e (List.mem_of_getElem? ay)
 rcases Pv h.row with ⟨_,aA⟩|⟨g,cap,rfl⟩
 ·omega
 ·refine⟨g,cap,v,rfl,aQ,ap,fun j u aT=>?_,h.own i e v ay ap,(h.row.lt g rfl).2,(h.row.lt g rfl).1,h.row.frozenAt,vL⟩;have Ix:j<so:=by
   have:=(List.getElem?_eq_some_iff.1 aT).1;simp at this;omega
  have aV:i * so+j<es.length * so:=by
   have h1:(i+1) * so<=es.length * so:=Nat.mul_le_mul_right _ aQ;rw[Nat.add_mul] at h1;omega
  rw[h.row.cellAt _ aV,flat_get es vs i j e v h.hl ay ap Ix];exact aT
theorem Tb.nes {v:NP}(ap:vs[i]? = some v):∃ s,es[i]? = some s/\(∀ k,v.ownBlock=some k->B<=k/\k<w.heap.size/\tv.ownBlock≠some k/\∃ c,w.heap[k]? = some (Og c hZ)):=by
 have hl:i<es.length:=by
  have:=(List.getElem?_eq_some_iff.1 ap).1;rw[h.len] at this;exact this
 refine⟨es[i],List.getElem?_eq_getElem hl,fun k E=>?_⟩;have U:=h.own i es[i] v (List.getElem?_eq_getElem hl) ap;obtain⟨c,ai⟩:=OZ U E;have h1:=(U.lt k E);refine⟨h1.1,h1.2,fun e=>?_,c,ai⟩;obtain⟨ft,sy⟩:=OZ h.row e;exact PW ai sy (fun q=>h.ne q.symm) rfl
end
theorem mem_set {es:List El}{i:Nat}{hY x:El}(h:x ∈ es.set i hY):x=hY\/x ∈ es:=(List.mem_or_eq_of_mem_set h).symm
theorem Tb.bump {w1:Ny}(h:Tb B jp so hZ kv w tv es vs)(aZ:B<=w.heap.size){i:Nat}{e:El}{v:NP}(ay:es[i]? = some e)(ap:vs[i]? = some v)
  (db:w.grownBy w1 v.ownBlock) {pO:Nat} {sV:List NP} (hown:w1.ownsRow B hZ kv v pO sV):Tb B jp so hZ kv w1 tv (es.set i ⟨e.hd,pO,sV⟩) vs/\OB [hZ] B w w1:=by
 obtain⟨fZ,_,ci⟩:=h.nes ap;have Ji:vs.set i v=vs:=by
  obtain⟨ac,rfl⟩:=List.getElem?_eq_some_iff.1 ap;exact List.set_getElem_self ac
 have vL:=h.hl e (List.mem_of_getElem? ay);refine⟨⟨?_,by simpa using h.len,?_,?_,h.apart,h.ne⟩,OB.grown db aZ fun k E=>⟨(ci k E).1,(ci k E).2.2.2.choose,hZ,(ci k E).2.2.2.choose_spec,by simp⟩⟩
 ·have E:=h.row.kept db (by
   cases ae:tv.ownBlock with
   | none=>exact .inl rfl
   | some q=>exact .inr fun e=>(ci q e.symm).2.2.1 ae)
  have av:=aaJ es vs i e ⟨e.hd,pO,sV⟩ v h.hl h.len ay rfl;rw[Ji] at av;have bC:=flat_get es vs i (so - 1) e v h.hl ay ap Nw;rw[List.getElem?_append_right Nw,show so - 1 - e.hd.length=0 by omega] at bC;rw[List.length_set,av];rw[show (flat es vs).set (i * so+(so - 1)) v=flat es vs by
   obtain⟨ac,hy⟩:=List.getElem?_eq_some_iff.1 (bC.trans rfl);rw[<-hy];exact List.set_getElem_self ac]
  exact E
 ·intro x ac
  rcases mem_set ac with rfl|ac
  ·exact vL
  ·exact h.hl x ac
 ·intro j fh v' aT hO
  by_cases iF:i=j
  ·subst iF;rw[ap] at hO
   cases hO
   have:i<es.length:=(List.getElem?_eq_some_iff.1 ay).1;simp[List.getElem?_set_self this] at aT;subst aT;exact hown
  ·rw[List.getElem?_set_ne iF] at aT;refine(h.own j fh v' aT hO).kept db ?_
   cases ag:v'.ownBlock with
   | none=>exact .inl rfl
   | some q=>exact .inr fun e=>iF (h.apart i j v v' q ap hO e.symm ag)
theorem Tb.put {w1:Ny}{g cap:Nat}(h:Tb B jp so hZ kv w (.slice (some (Nv g 0)) es.length cap) es vs)(aZ:B<=w.heap.size){i:Nat}{e:El}{v:NP}(ay:es[i]? = some e)(ap:vs[i]? = some v)
  (db:w.grownBy w1 v.ownBlock) {v':NP} {pO:Nat} {sV:List NP} (hown:w1.ownsRow B hZ kv v' pO sV) (iD:∀ q,v'.ownBlock=some q->v.ownBlock=some q\/w.heap.size<=q) :
  Tb B jp so hZ kv (w1.setCell (Nv g (i * so+(so - 1))) v') (.slice (some (Nv g 0)) es.length cap) (es.set i ⟨e.hd,pO,sV⟩) (vs.set i v')/\OB [jp,hZ] B w (w1.setCell (Nv g (i * so+(so - 1))) v'):=by
 obtain⟨fZ,_,ci⟩:=h.nes ap;have dx:=h.row.lt g rfl;obtain⟨mP,jr⟩:=OZ h.row (k:=g) rfl;have Ay:v.ownBlock≠some g:=fun e=>(ci g e).2.2.1 rfl;have Ip:v'.ownBlock≠some g:=fun e=>by
  rcases iD g e with h1|h1
  ·exact Ay h1
  ·omega
 have E:=h.row.kept db (.inr (fun e=>Ay e.symm));obtain⟨bF,lN⟩:=E.stored (i * so+(so - 1)) v';obtain⟨c1,f7⟩:=OZ E (k:=g) rfl;have av:=aaJ es vs i e ⟨e.hd,pO,sV⟩ v' h.hl h.len ay rfl;have aQ:i<es.length:=(List.getElem?_eq_some_iff.1 ay).1;have vL:=h.hl e (List.mem_of_getElem? ay);refine⟨⟨?_,by simpa using h.len,?_,?_,?_,h.ne⟩,?_⟩
 ·rw[List.length_set,av];exact bF
 ·intro x ac
  rcases mem_set ac with rfl|ac
  ·exact vL
  ·exact h.hl x ac
 ·intro j fh u aT aO
  by_cases iF:i=j
  ·subst iF;rw[List.getElem?_set_self (by rw[h.len];exact aQ)] at aO
   cases aO;simp[List.getElem?_set_self aQ] at aT;subst aT;exact ownsRow_setCell_other hown Ip _
  ·rw[List.getElem?_set_ne iF] at aT aO;have IA:w1.ownsRow B hZ kv u fh.n fh.xs:=by
    refine(h.own j fh u aT aO).kept db ?_
    cases ag:u.ownBlock with
    | none=>exact .inl rfl
    | some q=>exact .inr fun e=>iF (h.apart i j v u q ap aO e.symm ag)
   obtain⟨_,_,vS⟩:=h.nes aO;exact ownsRow_setCell_other IA (fun e=>(vS g e).2.2.1 rfl) _
 ·have key:∀ (j:Nat) b q,j≠i->vs[j]? = some b->v'.ownBlock=some q->b.ownBlock=some q->False:=by
   intro j b q aT D h1 O
   rcases iD q h1 with ax|aU
   ·exact aT (h.apart j i b v q D ap O ax)
   ·obtain⟨_,_,vS⟩:=h.nes D;have:=(vS q O).2.1;omega
  intro a b x y q aw D ac hy
  by_cases Af:i=a
  ·subst Af
   by_cases oE:i=b
   ·exact oE
   ·rw[List.getElem?_set_self (by rw[h.len];exact aQ)] at aw
    cases aw;rw[List.getElem?_set_ne oE] at D;exact(key b y q (fun e=>oE e.symm) D ac hy).elim
  ·rw[List.getElem?_set_ne Af] at aw
   by_cases oE:i=b
   ·subst oE;rw[List.getElem?_set_self (by rw[h.len];exact aQ)] at D
    cases D;exact(key a x q (fun e=>Af e.symm) aw hy ac).elim
   ·rw[List.getElem?_set_ne oE] at D;exact h.apart a b x y q aw D ac hy
 ·exact OB.setCell (OB.grown db aZ fun k E=>⟨(ci k E).1,(ci k E).2.2.2.choose,hZ,(ci k E).2.2.2.choose_spec,by simp⟩) f7 Oq dx.1 _
theorem Tb.push {w1:Ny}{tv':NP}(h:Tb B jp so hZ kv w tv es vs)(aZ:B<=w.heap.size)(hd:List NP)(hh:hd.length+1=so)(db:w.grownBy w1 tv.ownBlock)
  (hown:w1.ownsRow B jp so tv' (es.length+1) (flat es vs++(hd++[PG]))) :
  Tb B jp so hZ kv w1 tv' (es++[⟨hd,0,[]⟩]) (vs++[PG])/\OB [jp] B w w1:=by
 refine⟨⟨?_,by simp[h.len],?_,?_,?_,h.ne⟩,OB.grown db aZ fun k E=>?_⟩
 ·rw[ae0 _ _ _ _ h.len,List.length_append];exact hown
 ·intro x ac
  rcases List.mem_append.1 ac with ac|ac
  ·exact h.hl x ac
  ·simp at ac;subst ac;exact hh
 ·intro j fh u aT aO
  by_cases m5:j<es.length
  ·rw[List.getElem?_append_left m5] at aT;rw[List.getElem?_append_left (by rw[h.len];exact m5)] at aO
   obtain⟨_,_,vS⟩:=h.nes aO;refine(h.own j fh u aT aO).kept db ?_
   cases ag:u.ownBlock with
   | none=>exact .inl rfl
   | some q=>exact .inr fun e=>(vS q ag).2.2.1 e.symm
  ·have vM:=(List.getElem?_eq_some_iff.1 aT).1;simp at vM;have:j=es.length:=Nw;subst this;rw[List.getElem?_append_right Nw] at aT;rw[List.getElem?_append_right (by rw[h.len];omega)] at aO
   simp[h.len] at aT aO;subst aT aO;exact World.ownsRow_nil _ _ _ _
 ·intro i j a b q aw D sJ m9;have key:∀ (i:Nat) (a:NP),(vs++[PG])[i]? = some a->a.ownBlock=some q->vs[i]? = some a:=by
   intro i a aw ag
   by_cases rf:i<vs.length
   ·rw[List.getElem?_append_left rf] at aw;exact aw
   ·rw[List.getElem?_append_right Nw] at aw;have kh:i - vs.length=0:=by
     have:=(List.getElem?_eq_some_iff.1 aw).1;simp at this;omega
    rw[kh] at aw;simp at aw;subst aw;simp[Value.ownBlock] at ag
  exact h.apart i j a b q (key i a aw sJ) (key j b D m9) sJ m9
 ·obtain⟨c,ai⟩:=OZ h.row E;exact⟨(h.row.lt k E).1,c,jp,ai,by simp⟩
structure Va where
 k:Int
 n:Int
 s:NR
structure Pr where
 name:NR
 v:Va
 fixed:Bool
structure Ce where
 name:NR
 v:Va
 kind:Int
 ready:Bool
structure Ob where
 code:Int
 ps:List Pr
structure Ro where
 outer:Int
 object:Int
 cs:List Ce
structure Mo where
 objs:List Ob
 NQ:List Ro
def Pr.h (p:Pr):List NP:=[ND p.name,Nr p.v.k,Nr p.v.n,ND p.v.s,NI p.fixed]
def Ce.h (c:Ce):List NP:=[ND c.name,Nr c.v.k,Nr c.v.n,ND c.v.s,Nr c.kind,NI c.ready]
def Ob.h (o:Ob):El:=⟨[Nr o.code],o.ps.length,o.ps.flatMap Pr.h⟩
def Ro.h (r:Ro):El:=⟨[Nr r.outer,Nr r.object],r.cs.length,r.cs.flatMap Ce.h⟩
def YS (nm:NR)(x:NR):Bool:=x.toList==nm.toList
def fP (nm:NR)(ps:List Pr):Option Nat:=ps.findIdx? fun p=>YS nm p.name
def fC (nm:NR)(cs:List Ce):Option Nat:=cs.findIdx? fun c=>YS nm c.name
theorem VZ {α:Type}{f:α->List NP}{s:Nat}(aG:∀ a,(f a).length=s):∀ (l:List α) (k j:Nat),j<s->(l.flatMap f)[k * s+j]? =(l[k]?).bind fun a=>(f a)[j]?
 | [],k,j,_=>by simp
 | a::l,0,j,aT=>by
  rw[List.flatMap_cons,Nat.zero_mul,Nat.zero_add,List.getElem?_append_left (by rw[aG];exact aT)]
  rfl
 | a::l,k+1,j,aT=>by
  have h:=VZ aG l k j aT;rw[List.flatMap_cons,show (k+1) * s+j=(f a).length+(k * s+j) by rw[aG,Nat.add_mul];omega,List.getElem?_append_right Nw,Nat.add_sub_cancel_left,h]
  rfl
theorem alY {α:Type}{f:α->List NP}{s:Nat}(aG:∀ a,(f a).length=s)(l:List α):(l.flatMap f).length=l.length * s:=by
 induction l with
 | nil=>simp
 | cons a l bR=>rw[List.flatMap_cons,List.length_append,bR,aG,List.length_cons,Nat.add_mul];omega
structure HP (H:Nat)(R:List NP)(w:Ny)(M:Mo)(az aB:NP)(os b7:List NP):Prop where
 blk:w.heap[H]? = some (.cells (az::aB::R).toArray 84 (0,0))
 ob:Tb H 185 2 207 5 w az (M.objs.map Ob.h) os
 ro:Tb H 198 3 262 6 w aB (M.NQ.map Ro.h) b7
def OO (H:Nat)(R:List NP)(w:Ny)(M:Mo):Prop:=∃ az aB os b7,HP H R w M az aB os b7
theorem HP.later {H:Nat}{R:List NP}{w w':Ny}{M:Mo}{az aB:NP}{os b7:List NP}(h:HP H R w M az aB os b7)(D:NJ w w'):HP H R w' M az aB os b7:=
 ⟨(D.block H (lt_of_block h.blk)).trans h.blk,h.ob.later D,h.ro.later D⟩
theorem HP.c {H:Nat}{R:List NP}{w:Ny}{M:Mo}{az aB:NP}{os b7:List NP}(h:HP H R w M az aB os b7):w.cell? (Nv H 0)=some az/\w.cell? (Nv H 1)=some aB/\w.frozen? (Nv H 0)=false/\w.frozen? (Nv H 1)=false/\H<w.heap.size:=by
 refine⟨?_,?_,?_,?_,lt_of_block h.blk⟩
 ·simp[World.cell?,h.blk]
 ·simp[World.cell?,h.blk]
 all_goals
  simp[World.frozen?,h.blk]
def ZM (s:Nat):NP->Option Nat->Option Addr
 | .slice (some a) _ _,some k=>some (Nv a.block (k * s))
 | _,_=>none
theorem Xy (s:Nat)(v:NP):ZM s v none=none:=by cases v <;> simp[ZM]
theorem Xx (v:NP)(n:Nat)(ap:v=PG/\n=0\/∃ g cap,v=.slice (some (Nv g 0)) n cap)(i:Int)(ay:i<0\/(n:Int)<=i)(w:Ny) :
  NK 126 #[v,Nr i] w fun e w'=>e=NU Qb/\w'=w:=by
 rcases ap with ⟨rfl,rfl⟩|⟨g,cap,rfl⟩
 ·go_enter func126,ntmps126
  go_wp2
  all_goals go_ret
  all_goals exact⟨rfl,rfl⟩
 ·go_enter func126,ntmps126;exact apx
theorem aaM (g cap n:Nat)(i:Nat)(ay:i<n)(w:Ny) :
  NK 126 #[.slice (some (Nv g 0)) n cap,Nr (i:Int)] w fun e w'=>e=NU (NM g (i * 2))/\w'=w:=by
 go_enter func126,ntmps126;exact apx
theorem apy (b:Nat)(k:Nat)(s x:NR)(bE:Nat)(w:Ny)(h:w.cell? (Nv b k)=some (ND x))(aJ:w.cell? (Nv bE 0)=some (ND s)) :
  NK 206 #[NM b k,NM bE 0] w fun e w'=>e=NU (NI (x.toList==s.toList))/\w'=w.drew:=by
 go_enter func206,ntmps206
 go_wp2
 go_region_with fail
 all_goals go_wp2
 all_goals go_ret
 all_goals exact⟨rfl,rfl⟩
theorem agZ (v:NP)(bs:List Pr)(base:Nat)(s:NR)(bE:Nat)(w:Ny)(hrow:w.ownsRow base 207 5 v bs.length (bs.flatMap Pr.h))(aV:bs.length<=1000000000)(aJ:w.cell? (Nv bE 0)=some (ND s)) :
  NK 205 #[v,.func (.func 206) #[] #[NM bE 0]] w fun e w'=>e=NU (.pointer (ZM 5 v (fP s bs)))/\NJ w w':=by
 rcases Pv hrow with ⟨rfl,aA⟩|⟨g,cap,rfl⟩
 ·have:bs=[]:=List.length_eq_zero_iff.1 aA;subst this;clear aA aV;go_enter func205,ntmps205;exact ayb
 ·have aQ:=(hrow.lt g rfl).2;have tt:=hide (World.block_lt_of_cell? w _ aJ);have uy:Hid (∀ k b,bs[k]? = some b->w.cell? (Nv g (k * 5))=some (ND b.name)):=fun k b D=>by
   have E:k<bs.length:=(List.getElem?_eq_some_iff.1 D).1;have h:=hrow.cellAt (k * 5+0) Nw;rw[VZ (s:=5) (fun _=>rfl) bs k 0 NH,D] at h;simpa[Pr.h] using h
  have dN:=hide aJ;have bS:=hide aQ;clear aJ aQ;go_enter func205,ntmps205;go_wp2_with fail
  go_loopw [8] (fun i wr=>∃ k:Nat,k<=bs.length/\i=Nr k/\(∀ j b,j<k->bs[j]? = some b->YS s b.name=false)/\NJ w wr) (fun i _=>bs.length - (intOf i).toNat)
  case atStart=>exact⟨0,Nat.zero_le _,rfl,fun j b aT=>absurd aT (Nat.not_lt_zero _),P8⟩
  case round=>
   obtain⟨k,E,rfl,gH,D⟩:=hrel;have mL:=hide gH;have bM:=D;clear gH D
   by_cases aQ:k<bs.length
   ·obtain⟨b,hbk⟩:∃ b,bs[k]? = some b:=⟨_,List.getElem?_eq_getElem aQ⟩;have h1:wr.cell? (Nv g (k * 5))=some (ND b.name):=(cell_below bM (a:=(Nv g (k * 5))) bS.out).trans (uy.out k b hbk);have O:wr.cell? (Nv bE 0)=some (ND s):=(cell_below bM (a:=(Nv bE 0)) tt.out).trans dN.out;have ah:=(apy g (k * 5) s b.name bE wr h1 O);have ly:=hide hbk;clear h1 O hbk
    cases ac:(b.name.toList==s.toList)
    ·exact ayc
    ·rw[ac] at ah;have dS:=hide ac;clear ac;have z:=kk (∀{G}(h:G:=by
     go_ret;have aG:fP s bs=some k:=by
      rw[fP,List.findIdx?_eq_some_iff_getElem];exact ayd
     rw[aG];exact⟨rfl,bM.drew⟩),G);exact adf
   ·have kT:k=bs.length:=Nw;subst kT;go_wp2_with fail;go_ret;have aG:fP s bs=none:=by
     rw[fP,List.findIdx?_eq_none_iff];intro b D;obtain⟨j,aT,rfl⟩:=List.mem_iff_getElem.1 D;exact mL.out j _ aT (List.getElem?_eq_getElem aT)
    rw[aG];exact⟨rfl,bM⟩
theorem al7 (s:NR)(w:Ny) :
  NK 127 #[Qb,ND s] w fun e w'=>e=NU Qb/\NJ w w':=by
 go_enter func127,ntmps127;go_wp2_with fail;go_ret;exact⟨rfl,OM⟩
theorem adi (g k:Nat)(v:NP)(bs:List Pr)(base:Nat)(s:NR)(w:Ny)(h:w.cell? (Nv g (k+1))=some v)(hrow:w.ownsRow base 207 5 v bs.length (bs.flatMap Pr.h))(aV:bs.length<=1000000000) :
  NK 127 #[NM g k,ND s] w fun e w'=>e=NU (.pointer (ZM 5 v (fP s bs)))/\NJ w w':=by
 have hg:=World.block_lt_of_cell? w _ h;have iD:g<w.heap.size:=hg;have ah:=(agZ v bs base s w.heap.size (w.alloc (.cells #[ND s] 9)) (hrow.alloc _) aV Oq);have ap:=Pv hrow;clear hg;go_enter func127,ntmps127;exact aye
theorem V4 (v:NP)(n:Nat)(ap:v=PG/\n=0\/∃ g cap,v=.slice (some (Nv g 0)) n cap)(i:Int)(ay:i<0\/(n:Int)<=i)(w:Ny) :
  NK 122 #[v,Nr i] w fun e w'=>e=NU Qb/\w'=w:=by
 rcases ap with ⟨rfl,rfl⟩|⟨g,cap,rfl⟩
 ·go_enter func122,ntmps122
  go_wp2
  all_goals go_ret
  all_goals exact⟨rfl,rfl⟩
 ·go_enter func122,ntmps122;exact apx
theorem Y7 (g cap n:Nat)(i:Nat)(ay:i<n)(w:Ny) :
  NK 122 #[.slice (some (Nv g 0)) n cap,Nr (i:Int)] w fun e w'=>e=NU (NM g (i * 3))/\w'=w:=by
 go_enter func122,ntmps122;exact apx
theorem apz (b:Nat)(k:Nat)(s x:NR)(bE:Nat)(w:Ny)(h:w.cell? (Nv b k)=some (ND x))(aJ:w.cell? (Nv bE 0)=some (ND s)) :
  NK 204 #[NM b k,NM bE 0] w fun e w'=>e=NU (NI (x.toList==s.toList))/\w'=w.drew:=by
 go_enter func204,ntmps204
 go_wp2
 go_region_with fail
 all_goals go_wp2
 all_goals go_ret
 all_goals exact⟨rfl,rfl⟩
theorem ag0 (v:NP)(bs:List Ce)(base:Nat)(s:NR)(bE:Nat)(w:Ny)(hrow:w.ownsRow base 262 6 v bs.length (bs.flatMap Ce.h))(aV:bs.length<=1000000000)(aJ:w.cell? (Nv bE 0)=some (ND s)) :
  NK 203 #[v,.func (.func 204) #[] #[NM bE 0]] w fun e w'=>e=NU (.pointer (ZM 6 v (fC s bs)))/\NJ w w':=by
 rcases Pv hrow with ⟨rfl,aA⟩|⟨g,cap,rfl⟩
 ·have:bs=[]:=List.length_eq_zero_iff.1 aA;subst this;clear aA aV;go_enter func203,ntmps203;exact ayb
 ·have aQ:=(hrow.lt g rfl).2;have tt:=hide (World.block_lt_of_cell? w _ aJ);have uy:Hid (∀ k b,bs[k]? = some b->w.cell? (Nv g (k * 6))=some (ND b.name)):=fun k b D=>by
   have E:k<bs.length:=(List.getElem?_eq_some_iff.1 D).1;have h:=hrow.cellAt (k * 6+0) Nw;rw[VZ (s:=6) (fun _=>rfl) bs k 0 NH,D] at h;simpa[Ce.h] using h
  have dN:=hide aJ;have bS:=hide aQ;clear aJ aQ;go_enter func203,ntmps203;go_wp2_with fail
  go_loopw [8] (fun i wr=>∃ k:Nat,k<=bs.length/\i=Nr k/\(∀ j b,j<k->bs[j]? = some b->YS s b.name=false)/\NJ w wr) (fun i _=>bs.length - (intOf i).toNat)
  case atStart=>exact⟨0,Nat.zero_le _,rfl,fun j b aT=>absurd aT (Nat.not_lt_zero _),P8⟩
  case round=>
   obtain⟨k,E,rfl,gH,D⟩:=hrel;have mL:=hide gH;have bM:=D;clear gH D
   by_cases aQ:k<bs.length
   ·obtain⟨b,hbk⟩:∃ b,bs[k]? = some b:=⟨_,List.getElem?_eq_getElem aQ⟩;have h1:wr.cell? (Nv g (k * 6))=some (ND b.name):=(cell_below bM (a:=(Nv g (k * 6))) bS.out).trans (uy.out k b hbk);have O:wr.cell? (Nv bE 0)=some (ND s):=(cell_below bM (a:=(Nv bE 0)) tt.out).trans dN.out;have ah:=(apz g (k * 6) s b.name bE wr h1 O);have ly:=hide hbk;clear h1 O hbk
    cases ac:(b.name.toList==s.toList)
    ·exact ayc
    ·rw[ac] at ah;have dS:=hide ac;clear ac;have z:=kk (∀{G}(h:G:=by
     go_ret;have aG:fC s bs=some k:=by
      rw[fC,List.findIdx?_eq_some_iff_getElem];exact ayd
     rw[aG];exact⟨rfl,bM.drew⟩),G);exact adf
   ·have kT:k=bs.length:=Nw;subst kT;go_wp2_with fail;go_ret;have aG:fC s bs=none:=by
     rw[fC,List.findIdx?_eq_none_iff];intro b D;obtain⟨j,aT,rfl⟩:=List.mem_iff_getElem.1 D;exact mL.out j _ aT (List.getElem?_eq_getElem aT)
    rw[aG];exact⟨rfl,bM⟩
theorem al8 (s:NR)(w:Ny) :
  NK 123 #[Qb,ND s] w fun e w'=>e=NU Qb/\NJ w w':=by
 go_enter func123,ntmps123;go_wp2_with fail;go_ret;exact⟨rfl,OM⟩
theorem adk (g k:Nat)(v:NP)(bs:List Ce)(base:Nat)(s:NR)(w:Ny)(h:w.cell? (Nv g (k+2))=some v)(hrow:w.ownsRow base 262 6 v bs.length (bs.flatMap Ce.h))(aV:bs.length<=1000000000) :
  NK 123 #[NM g k,ND s] w fun e w'=>e=NU (.pointer (ZM 6 v (fC s bs)))/\NJ w w':=by
 have hg:=World.block_lt_of_cell? w _ h;have iD:g<w.heap.size:=hg;have ah:=(ag0 v bs base s w.heap.size (w.alloc (.cells #[ND s] 9)) (hrow.alloc _) aV Oq);have ap:=Pv hrow;clear hg;go_enter func123,ntmps123;exact aye
def Mo.ob (M:Mo)(o:Int):Option Ob:=if o<0 then none else M.objs[o.toNat]?
def Mo.ro (M:Mo)(s:Int):Option Ro:=if s<0 then none else M.NQ[s.toNat]?
def Mo.prop (M:Mo)(o:Int)(nm:NR):Option Pr:=(M.ob o).bind fun x=>x.ps.find? fun p=>YS nm p.name
def Mo.XM (M:Mo)(s:Int)(nm:NR):Option Ce:=(M.ro s).bind fun x=>x.cs.find? fun c=>YS nm c.name
def Mo.Ql (M:Mo)(s:Int):Int:=((M.ro s).map (·.object)).getD (-1)
def Mo.outOf (M:Mo)(s:Int):Int:=((M.ro s).map (·.outer)).getD (-1)
def Mo.codeOf (M:Mo)(s:Int):Int:=((M.ob s).map (·.code)).getD 0
def Mo.has (M:Mo)(s:Int)(nm:NR):Bool:=(M.XM s nm).isSome||(M.prop (M.Ql s) nm).isSome
def Mo.kindOf (M:Mo)(s:Int)(nm:NR):Int:=((M.XM s nm).map (·.kind)).getD (-1)
structure Mo.Small (M:Mo)(k:Nat):Prop where
 o:M.objs.length<=k
 r:M.NQ.length<=k
 ps:∀ x ∈ M.objs,x.ps.length<=k
 cs:∀ x ∈ M.NQ,x.cs.length<=k
def vZ:Obj:=.cells #[Nr 0,Nr 0,OG] 65
def ae8:NP:=.agg #[Nr 0,Nr 0,OG]
def al9:Option Pr->NP
 | none=>ae8
 | some p=>.agg #[Nr p.v.k,Nr p.v.n,ND p.v.s]
def hP (H:Nat):NP:=NM H 0
theorem XH {w w1:Ny}{a b c:NP}{t:TypeId}(D:Below (w.heap.size+1) (w.alloc (.cells #[a,b,c] t)) w1) :
  w1.cell? (Nv w.heap.size 0)=some a/\w1.cell? (Nv w.heap.size 1)=some b/\w1.cell? (Nv w.heap.size 2)=some c/\(∀ j,w1.frozen? (Nv w.heap.size j)=false)/\w.heap.size<w1.heap.size:=by
 have h:w1.heap[w.heap.size]? = some (Og #[a,b,c] t):=(D.block _ (Nat.lt_succ_self _)).trans (heap_alloc_new w _);refine⟨by simp[World.cell?,h],by simp[World.cell?,h],by simp[World.cell?,h],fun j=>by simp[World.frozen?,h],lt_of_block h⟩
theorem below3 {w gB:Ny}{B b:Nat}(D:Below B w gB)(h:B<=b)(v0 v1 v2:NP):Below B w (((gB.setCell (Nv b 0) v0).setCell (Nv b 1) v1).setCell (Nv b 2) v2):=
 ((D.setCell (p:=(Nv b 0)) h v0).setCell (p:=(Nv b 1)) h v1).setCell (p:=(Nv b 2)) h v2
theorem UM {α:Type}(p:α->Bool)(l:List α):(l.findIdx? p=none/\l.find? p=none)\/∃ k c,l.findIdx? p=some k/\l[k]? = some c/\l.find? p=some c/\p c=true:=by
 cases h:l.findIdx? p with
 | none=>
  left;refine⟨rfl,?_⟩;rw[List.findIdx?_eq_none_iff] at h;rw[List.find?_eq_none];intro x ac;simp[h x ac]
 | some k=>
  right;obtain⟨E,h1,O⟩:=List.findIdx?_eq_some_iff_getElem.1 h;refine⟨k,l[k],rfl,List.getElem?_eq_getElem E,?_,h1⟩;rw[List.find?_eq_some_iff_getElem];exact⟨h1,k,E,rfl,fun j aT=>by have:=O j aT;simpa using this⟩
theorem Qm (M:Mo)(o:Int):(M.ob o=none/\(o<0\/(M.objs.length:Int)<=o))\/∃ (i:Nat) (x:Ob),o=i/\M.objs[i]? = some x/\M.ob o=some x:=by
 unfold Mo.ob
 by_cases h:o<0
 ·rw[if_pos h];exact .inl ⟨rfl,.inl h⟩
 ·rw[if_neg h]
  cases ac:M.objs[o.toNat]? with
  | none=>
   left;refine⟨rfl,.inr ?_⟩;have:=List.getElem?_eq_none_iff.1 ac;omega
  | some x=>exact .inr ⟨o.toNat,x,by omega,ac,rfl⟩
def ama (W:Ny)(iz k:Nat)(c:Pr):Prop:=(∀ j u,c.h[j]? = some u->W.cell? (Nv iz (k * 5+j))=some u)/\iz<W.heap.size/\∀ j,W.frozen? (Nv iz j)=false
theorem atP {B:Nat}{w:Ny}{v:NP}{bs:List Pr}(hrow:w.ownsRow B 207 5 v bs.length (bs.flatMap Pr.h)){k:Nat}{b:Pr}(D:bs[k]? = some b) :
  ∃ g cap,v=.slice (some (Nv g 0)) bs.length cap/\k<bs.length/\ama w g k b/\B<=g:=by
 have E:k<bs.length:=(List.getElem?_eq_some_iff.1 D).1
 rcases Pv hrow with ⟨_,aA⟩|⟨g,cap,rfl⟩
 ·omega
 ·refine⟨g,cap,rfl,E,⟨fun j u aT=>?_,(hrow.lt g rfl).2,hrow.frozenAt⟩,(hrow.lt g rfl).1⟩;have vM:j<5:=(List.getElem?_eq_some_iff.1 aT).1;rw[hrow.cellAt _ Nw,VZ (s:=5) (fun _=>rfl) bs k j vM,D];exact aT
theorem alZ {H:Nat}{R:List NP}{w:Ny}{M:Mo}{az aB:NP}{os b7:List NP}(h:HP H R w M az aB os b7){K:Nat}(ae:M.Small K)(A:K<=1000000000)(o:Int)(nm:NR) :
  ∃ q r,NK 126 #[az,Nr o] w (fun e w'=>e=NU (.pointer q)/\w'=w)/\NK 127 #[.pointer q,ND nm] w (fun e w'=>e=NU (.pointer r)/\NJ w w') /\
   ((r=none/\M.prop o nm=none)\/∃ (i:Nat) (x:Ob) (k:Nat) (c:Pr) (g cap:Nat),o=i/\M.objs[i]? = some x/\fP nm x.ps=some k/\x.ps[k]? = some c/\M.prop o nm=some c/\r=some (Nv g (k * 5))/\os[i]? = some (.slice (some (Nv g 0)) x.ps.length cap)/\∀ W,NJ w W->ama W g k c):=by
 rcases Qm M o with ⟨h0,hout⟩|⟨i,x,rfl,ac,h1⟩
 ·refine⟨none,none,Xx az _ (Pv h.ob.row) o (by simpa using hout) w,al7 nm w,.inl ⟨rfl,by simp[Mo.prop,h0]⟩⟩
 ·obtain⟨g,cap,v,av,aQ,ap,ai,hrow,hg,aZ,aG,_⟩:=h.ob.at_ (i:=i) (e:=x.h) (by simp[ac]);have mu:=ae.ps x (List.mem_of_getElem? ac);have eH:w.cell? (Nv g (i * 2+1))=some v:=ai 1 v rfl;have hrow':w.ownsRow H 207 5 v x.ps.length (x.ps.flatMap Pr.h):=hrow;refine⟨some (Nv g (i * 2)),ZM 5 v (fP nm x.ps),?_,adi g (i * 2) v x.ps H nm w eH hrow' Nw,?_⟩
  ·rw[av];exact aaM g cap _ i aQ w
  ·rcases UM (fun c=>YS nm c.name) x.ps with ⟨dZ,dW⟩|⟨k,c,dZ,dW,fO,_⟩
   ·left;refine⟨?_,by simp[Mo.prop,h1,dW]⟩;rw[show fP nm x.ps=none from dZ];exact Xy _ _
   ·right;obtain⟨iz,mO,rfl,cJ,tN,HX⟩:=atP hrow' dW;refine⟨i,x,k,c,iz,mO,rfl,ac,dZ,dW,by simp[Mo.prop,h1,fO],?_,ap,fun W a6=>?_⟩
    ·rw[show fP nm x.ps=some k from dZ];rfl
    ·obtain⟨gX,cap',hO,_,bZ,_⟩:=atP (N9 hrow' a6) dW;exact ayf
theorem OX (M:Mo)(o:Int):(M.ro o=none/\(o<0\/(M.NQ.length:Int)<=o))\/∃ (i:Nat) (x:Ro),o=i/\M.NQ[i]? = some x/\M.ro o=some x:=by
 unfold Mo.ro
 by_cases h:o<0
 ·rw[if_pos h];exact .inl ⟨rfl,.inl h⟩
 ·rw[if_neg h]
  cases ac:M.NQ[o.toNat]? with
  | none=>
   left;refine⟨rfl,.inr ?_⟩;have:=List.getElem?_eq_none_iff.1 ac;omega
  | some x=>exact .inr ⟨o.toNat,x,by omega,ac,rfl⟩
def amb (W:Ny)(iz k:Nat)(c:Ce):Prop:=(∀ j u,c.h[j]? = some u->W.cell? (Nv iz (k * 6+j))=some u)/\iz<W.heap.size/\∀ j,W.frozen? (Nv iz j)=false
theorem atC {B:Nat}{w:Ny}{v:NP}{bs:List Ce}(hrow:w.ownsRow B 262 6 v bs.length (bs.flatMap Ce.h)){k:Nat}{b:Ce}(D:bs[k]? = some b) :
  ∃ g cap,v=.slice (some (Nv g 0)) bs.length cap/\k<bs.length/\amb w g k b/\B<=g:=by
 have E:k<bs.length:=(List.getElem?_eq_some_iff.1 D).1
 rcases Pv hrow with ⟨_,aA⟩|⟨g,cap,rfl⟩
 ·omega
 ·refine⟨g,cap,rfl,E,⟨fun j u aT=>?_,(hrow.lt g rfl).2,hrow.frozenAt⟩,(hrow.lt g rfl).1⟩;have vM:j<6:=(List.getElem?_eq_some_iff.1 aT).1;rw[hrow.cellAt _ Nw,VZ (s:=6) (fun _=>rfl) bs k j vM,D];exact aT
theorem XO {H:Nat}{R:List NP}{w:Ny}{M:Mo}{az aB:NP}{os b7:List NP}(h:HP H R w M az aB os b7){K:Nat}(ae:M.Small K)(A:K<=1000000000)(o:Int)(nm:NR) :
  ∃ q r,NK 122 #[aB,Nr o] w (fun e w'=>e=NU (.pointer q)/\w'=w)/\NK 123 #[.pointer q,ND nm] w (fun e w'=>e=NU (.pointer r)/\NJ w w') /\
   ((r=none/\M.XM o nm=none)\/∃ (i:Nat) (x:Ro) (k:Nat) (c:Ce) (g cap:Nat),o=i/\M.NQ[i]? = some x/\fC nm x.cs=some k/\x.cs[k]? = some c/\M.XM o nm=some c/\r=some (Nv g (k * 6))/\b7[i]? = some (.slice (some (Nv g 0)) x.cs.length cap)/\∀ W,NJ w W->amb W g k c):=by
 rcases OX M o with ⟨h0,hout⟩|⟨i,x,rfl,ac,h1⟩
 ·refine⟨none,none,V4 aB _ (Pv h.ro.row) o (by simpa using hout) w,al8 nm w,.inl ⟨rfl,by simp[Mo.XM,h0]⟩⟩
 ·obtain⟨g,cap,v,av,aQ,ap,ai,hrow,hg,aZ,aG,_⟩:=h.ro.at_ (i:=i) (e:=x.h) (by simp[ac]);have mu:=ae.cs x (List.mem_of_getElem? ac);have eH:w.cell? (Nv g (i * 3+2))=some v:=ai 2 v rfl;have hrow':w.ownsRow H 262 6 v x.cs.length (x.cs.flatMap Ce.h):=hrow;refine⟨some (Nv g (i * 3)),ZM 6 v (fC nm x.cs),?_,adk g (i * 3) v x.cs H nm w eH hrow' Nw,?_⟩
  ·rw[av];exact Y7 g cap _ i aQ w
  ·rcases UM (fun c=>YS nm c.name) x.cs with ⟨dZ,dW⟩|⟨k,c,dZ,dW,fO,_⟩
   ·left;refine⟨?_,by simp[Mo.XM,h1,dW]⟩;rw[show fC nm x.cs=none from dZ];exact Xy _ _
   ·right;obtain⟨iz,mO,rfl,cJ,tN,HX⟩:=atC hrow' dW;refine⟨i,x,k,c,iz,mO,rfl,ac,dZ,dW,by simp[Mo.XM,h1,fO],?_,ap,fun W a6=>?_⟩
    ·rw[show fC nm x.cs=some k from dZ];rfl
    ·obtain⟨gX,cap',hO,_,bZ,_⟩:=atC (N9 hrow' a6) dW;exact ayf
variable {H K:Nat}{R os b7:List NP}{M:Mo}{az aB:NP}
section
variable (h:HP H R w M az aB os b7) (s:Int)
include h s
theorem Y8:NK 125 #[hP H,Nr s] w fun e w'=>e=NU (Nr (M.Ql s))/\w'=w:=by
 obtain⟨h0,h1,aG,hr,hl⟩:=h.c;unfold hP
 rcases OX M s with ⟨aH,hout⟩|⟨i,x,rfl,ac,av⟩
 ·have ah:=(V4 aB _ (Pv h.ro.row) s (by simpa using hout) w);rw[show M.Ql s = -1 by simp[Mo.Ql,aH]];clear h;go_enter func125,ntmps125;exact aj3
 ·obtain⟨g,cap,v,bC,aQ,ap,ai,hrow,hg,aZ,aG,_⟩:=h.ro.at_ (i:=i) (e:=x.h) (by simp[ac]);have ah:=(Y7 g cap _ i aQ w);rw[<-bC] at ah;have c1:w.cell? (Nv g (i * 3+1))=some (Nr x.object):=ai 1 _ rfl;rw[show M.Ql i=x.object by simp[Mo.Ql,av]];clear h ai bC;go_enter func125,ntmps125;exact aj3
theorem acw:NK 252 #[hP H,Nr s] w fun e w'=>e=NU (Nr (M.outOf s))/\w'=w:=by
 obtain⟨h0,h1,aG,hr,hl⟩:=h.c;unfold hP
 rcases OX M s with ⟨aH,hout⟩|⟨i,x,rfl,ac,av⟩
 ·have ah:=(V4 aB _ (Pv h.ro.row) s (by simpa using hout) w);rw[show M.outOf s = -1 by simp[Mo.outOf,aH]];clear h;go_enter func252,ntmps252;exact aj3
 ·obtain⟨g,cap,v,bC,aQ,ap,ai,hrow,hg,aZ,aG,_⟩:=h.ro.at_ (i:=i) (e:=x.h) (by simp[ac]);have ah:=(Y7 g cap _ i aQ w);rw[<-bC] at ah;have c1:w.cell? (Nv g (i * 3))=some (Nr x.outer):=ai 0 _ rfl;rw[show M.outOf i=x.outer by simp[Mo.outOf,av]];clear h ai bC;go_enter func252,ntmps252;exact aj3
theorem W9:NK 209 #[hP H,Nr s] w fun e w'=>e=NU (Nr (M.codeOf s))/\w'=w:=by
 obtain⟨h0,h1,aG,hr,hl⟩:=h.c;unfold hP
 rcases Qm M s with ⟨aH,hout⟩|⟨i,x,rfl,ac,av⟩
 ·have ah:=(Xx az _ (Pv h.ob.row) s (by simpa using hout) w);rw[show M.codeOf s=0 by simp[Mo.codeOf,aH]];clear h;go_enter func209,ntmps209;exact aj3
 ·obtain⟨g,cap,v,bC,aQ,ap,ai,hrow,hg,aZ,aG,_⟩:=h.ob.at_ (i:=i) (e:=x.h) (by simp[ac]);have ah:=(aaM g cap _ i aQ w);rw[<-bC] at ah;have c1:w.cell? (Nv g (i * 2))=some (Nr x.code):=ai 0 _ rfl;rw[show M.codeOf i=x.code by simp[Mo.codeOf,av]];clear h ai bC;go_enter func209,ntmps209;exact aj3
end
section
variable (h:HP H R w M az aB os b7) (ae:M.Small K) (A:K<=1000000000)
include h ae A
theorem get_any (o:Int)(nm:NR) :
  NK 124 #[hP H,Nr o,ND nm] w fun e w'=>e=NU (.tuple #[al9 (M.prop o nm),NI (M.prop o nm).isSome])/\NJ w w':=by
 obtain⟨h0,h1,aG,hr,hl⟩:=h.c;have eW:NJ w (w.alloc vZ):=OM;obtain⟨q,r,dK,ez,U⟩:=alZ (h.later eW) ae A o nm;unfold vZ at dK ez;unfold hP;clear h
 rcases U with ⟨rfl,al⟩|⟨i,x,k,c,g,cap,rfl,_,_,_,al,rfl,_,a6⟩
 ·rw[al];clear al;go_enter func124,ntmps124;have z:=kk (∀{G}(h:G:=by
  have z:=kk (∀{G}(h:G:=by
  go_wp2_with fail;refine bodyPost_ret (v:=.tuple #[ae8,NI false]) (by simp[results,results124,go_sem,ae8,dm,bT,cY]) rfl ⟨rfl,?_⟩;exact below3 bM OH _ _ _),G);exact amc),G);exact agX
 ·rw[al];clear al;have fs:=hide a6;clear a6;go_enter func124,ntmps124;have z:=kk (∀{G}(h:G:=by
  obtain⟨bZ,dx,_⟩:=fs.out w1 D;have eq:=bZ 1 _ rfl;have hp:=bZ 2 _ rfl;have jG:=bZ 3 _ rfl;have z:=kk (∀{G}(h:G:=by
  clear bZ;go_wp2_with fail;refine bodyPost_ret (v:=.tuple #[al9 (some c),NI true]) (by simp[results,results124,go_sem,al9,dm,bT,cY]) rfl ⟨rfl,?_⟩;exact below3 bM OH _ _ _),G);exact amc),G);exact agX
theorem Yw (s:Int)(nm:NR) :
  NK 353 #[hP H,Nr s,ND nm] w fun e w'=>e=NU (Nr (M.kindOf s nm))/\NJ w w':=by
 obtain⟨h0,h1,aG,hr,hl⟩:=h.c;obtain⟨q,r,dK,ez,U⟩:=XO h ae A s nm;unfold hP Mo.kindOf;clear h
 rcases U with ⟨rfl,al⟩|⟨i,x,k,c,g,cap,rfl,_,_,_,al,rfl,_,a6⟩
 ·rw[al];clear al;go_enter func353,ntmps353;exact ayg
 ·rw[al];clear al;have fs:=hide a6;clear a6;go_enter func353,ntmps353;have z:=kk (∀{G}(h:G:=by
  obtain⟨bZ,dx,_⟩:=fs.out w1 D;have lc:=bZ 4 _ rfl;have bM:=D;clear bZ;go_wp2_with fail;go_ret;exact⟨rfl,bM⟩),G);exact agX
theorem amd (o:Int)(nm:NR)(al:M.prop o nm=none) :
  NK 124 #[NM H 0,Nr o,ND nm] w fun e w'=>e=NU (.tuple #[.agg #[Nr 0,Nr 0,OG],NI false])/\NJ w w':=by
 have:=get_any h ae A o nm;rw[al] at this;exact this
theorem aiF (o:Int)(nm:NR){p:Pr}(al:M.prop o nm=some p) :
  NK 124 #[NM H 0,Nr o,ND nm] w fun e w'=>e=NU (.tuple #[.agg #[Nr p.v.k,Nr p.v.n,ND p.v.s],NI true])/\NJ w w':=by
 have:=get_any h ae A o nm;rw[al] at this;exact this
theorem Xz (s:Int)(nm:NR) :
  NK 55 #[NM H 0,Nr s,ND nm] w fun e w'=>e=NU (NI (M.has s nm))/\NJ w w':=by
 obtain⟨h0,h1,aG,hr,hl⟩:=h.c;obtain⟨q,r,dK,ez,U⟩:=XO h ae A s nm;unfold Mo.has
 rcases U with ⟨rfl,al⟩|⟨i,x,k,c,g,cap,rfl,_,_,_,al,rfl,_,a6⟩
 ·rw[al];clear al;have z:=kk (∀{G}(h:G:=by
  rw[<-oP];clear oP
  cases ag:M.prop oo nm with
  | none=>
   have gU:Hid (∀ w1,NJ w w1->_):=fun w1 D=>amd (h.later D) ae A oo nm ag;exact ayh
  | some p=>
   have gU:Hid (∀ w1,NJ w w1->_):=fun w1 D=>aiF (h.later D) ae A oo nm ag;exact ayh),G);exact atE
 ·rw[al];clear al a6;go_enter func55,ntmps55;exact ayg
end
inductive Mo.Finds (M:Mo) (nm:NR):Int->Int->Prop where
 | out (i:Int) (h:M.ro i=none):Mo.Finds M nm i (-1)
 | here (i:Nat) (x:Ro) (h:M.NQ[i]? = some x) (hh:M.has i nm=true):Mo.Finds M nm i i
 | on (i:Nat) (x:Ro) (r:Int) (h:M.NQ[i]? = some x) (hh:M.has i nm=false) (aM:x.outer<i) (U:Mo.Finds M nm x.outer r):Mo.Finds M nm i r
theorem ame {M:Mo}{i:Nat}{x:Ro}(h:M.NQ[i]? = some x):M.ro i=some x:=by simp[Mo.ro,h]
theorem atF {M:Mo}{i:Nat}{x:Ob}(h:M.objs[i]? = some x):M.ob i=some x:=by simp[Mo.ob,h]
theorem al4 (h:HP H R w M az aB os b7)(i:Nat)(x:Ro)(ay:M.NQ[i]? = some x):∃ a:Addr,NK 122 #[aB,Nr (i:Int)] w fun e w'=>e=NU (.pointer (some a))/\w'=w:=by
 obtain⟨g,cap,v,bC,aQ,ap,ai,hrow,hg,aZ,aG,_⟩:=h.ro.at_ (i:=i) (e:=x.h) (by simp[ay]);have ah:=Y7 g cap _ i aQ w;rw[<-bC] at ah;exact⟨_,ah⟩
theorem amf (h:HP H R w M az aB os b7)(ae:M.Small K)(A:K<=1000000000)(i r:Int)(nm:NR)(aG:M.Finds nm i r) :
  NK 195 #[NM H 0,Nr i,ND nm] w fun e w'=>e=NU (Nr r)/\NJ w w':=by
 have iw:=h;clear h;go_enter func195,ntmps195;go_wp2_with fail
 go_loopw [1] (fun hQ wr=>∃ j:Int,hQ=Nr j/\M.Finds nm j r/\NJ w wr) (fun hQ _=>(intOf hQ+1).toNat)
 case atStart=>exact⟨i,rfl,aG,P8⟩
 case round=>
  obtain⟨j,rfl,Ig,D⟩:=hrel;have rT:=(iw.later D);obtain⟨h0,h1,_,_,hl⟩:=rT.c
  cases Ig with
  | out _ aM=>
   have hout:j<0\/(M.NQ.length:Int)<=j:=by
    rcases OX M j with ⟨_,h⟩|⟨i,x,rfl,_,h⟩
    ·exact h
    ·rw[aM] at h;cases h
   have ah:=(V4 aB _ (Pv rT.ro.row) j (by simpa using hout) wr);clear hout aM;have z:=kk (∀{G}(h:G:=by
   go_ret;exact⟨rfl,D⟩),G);exact adf
  | here k x E hh=>
   obtain⟨a,ai⟩:=al4 rT k x E;have ah:=ai;have ba:=(Xz rT ae A k nm);rw[hh] at ba;clear hh E;have z:=kk (∀{G}(h:G:=by
   refine cm ba ?_;rintro e w2 ⟨rfl,aE⟩;have cf:=(D.trans (aE.mono D.size));go_wp2_with fail;go_ret;exact⟨rfl,cf⟩),G);exact adf
  | on k x _ E hh aM U=>
   obtain⟨a,ai⟩:=al4 rT k x E;have ah:=ai;have ba:=(Xz rT ae A k nm);rw[hh] at ba;have dr:=hide (fun W a6=>acw (rT.later (w':=W) a6) k);rw[show M.outOf k=x.outer by simp[Mo.outOf,ame E]] at dr;unfold hP at dr;have Gc:=hide aM;clear hh E aM;have z:=kk (∀{G}(h:G:=by
   refine cm ba ?_;rintro e w2 ⟨rfl,aE⟩;have pg:=(dr.out w2 aE);have cf:=(D.trans (aE.mono D.size));go_wp2_with fail;refine cm pg ?_;rintro e ao ⟨rfl,rfl⟩;go_wp2_with fail
   go_roundw
   case rel=>exact⟨x.outer,rfl,U,cf⟩
   case measure=>
    have:=Gc.out;simp[intOf];omega),G);exact adf
def Mo.aE0 (M:Mo)(s:Int)(nm:NR):NP × Int:=
 match M.XM s nm with
 | some c=>if c.ready then (.agg #[Nr c.v.k,Nr c.v.n,ND c.v.s],0) else (ae8,6)
 | none=>
  match M.prop (M.Ql s) nm with
  | some p=>(.agg #[Nr p.v.k,Nr p.v.n,ND p.v.s],0)
  | none=>(ae8,7)
def RY (e:Int):NP:=if e=0 then .nilIface else .iface 34 (Nr e)
theorem ayi {w1:Ny}{b:Nat}{e' cj dD a c d:NP}(o:Obj)(dm:w1.cell? (Nv b 0)=some e')(bT:w1.cell? (Nv b 1)=some cj)(cY:w1.cell? (Nv b 2)=some dD)(nl:b<w1.heap.size) :
  ((((w1.setCell (Nv b 0) a).setCell (Nv b 1) c).setCell (Nv b 2) d).alloc o).cell? (Nv b 0)=some a/\((((w1.setCell (Nv b 0) a).setCell (Nv b 1) c).setCell (Nv b 2) d).alloc o).cell? (Nv b 1)=some c/\((((w1.setCell (Nv b 0) a).setCell (Nv b 1) c).setCell (Nv b 2) d).alloc o).cell? (Nv b 2)=some d:=by
 have aJ:b<(((w1.setCell (Nv b 0) a).setCell (Nv b 1) c).setCell (Nv b 2) d).heap.size:=by simpa using nl
 refine⟨?_,?_,?_⟩
 all_goals
  rw[World.cell?_alloc_past _ _ _ (by exact aJ)];go_simp
section
variable (h:HP H R w M az aB os b7) (ae:M.Small K) (A:K<=1000000000)
include h ae A
theorem amg (o:Int)(nm:NR)(al:M.prop o nm=none) :
  NK 313 #[NM H 0,Nr o,ND nm] w fun e w'=>e=NU (.tuple #[.agg #[Nr 0,Nr 0,OG],.iface 34 (Nr 7)])/\NJ w w':=by
 have eW:NJ w (w.alloc vZ):=OM;have gU:=(amd (h.later eW) ae A o nm al);unfold vZ at gU;clear h al;go_enter func313,ntmps313;go_wp2_with fail;refine cm gU ?_;rintro e w1 ⟨rfl,D⟩;have z:=kk (∀{G}(h:G:=by
 go_wp2_with fail;obtain⟨cy,bQ,b5⟩:=ayi (a:=Nr 0) (c:=Nr 0) (d:=OG) (.cells #[Nr 0,Nr 0,OG] 65) dm bT cY nl;refine bodyPost_ret (v:=.tuple #[.agg #[Nr 0,Nr 0,OG],.iface 34 (Nr 7)]) (by simp[results,results313,go_sem,cy,bQ,b5]) rfl ⟨rfl,?_⟩;exact(below3 bM OH _ _ _).alloc (by simpa using Oi nl) _),G);exact amc
theorem aj6 (o:Int)(nm:NR){p:Pr}(al:M.prop o nm=some p) :
  NK 313 #[NM H 0,Nr o,ND nm] w fun e w'=>e=NU (.tuple #[.agg #[Nr p.v.k,Nr p.v.n,ND p.v.s],Pe])/\NJ w w':=by
 have eW:NJ w (w.alloc vZ):=OM;have gU:=(aiF (h.later eW) ae A o nm al);unfold vZ at gU;clear h al;go_enter func313,ntmps313;go_wp2_with fail;refine cm gU ?_;rintro e w1 ⟨rfl,D⟩;have z:=kk (∀{G}(h:G:=by
 go_wp2_with fail;obtain⟨cy,bQ,b5⟩:=ayi (a:=Nr p.v.k) (c:=Nr p.v.n) (d:=ND p.v.s) (.cells #[Nr p.v.k,Nr p.v.n,ND p.v.s] 65) dm bT cY nl;refine bodyPost_ret (v:=.tuple #[.agg #[Nr p.v.k,Nr p.v.n,ND p.v.s],Pe]) (by simp[results,results313,go_sem,cy,bQ,b5]) rfl ⟨rfl,?_⟩;exact(below3 bM OH _ _ _).alloc (by simpa using Oi nl) _),G);exact amc
theorem acy (s:Int)(nm:NR)(ai:M.XM s nm=none)(V:NP)(n m:Int)(bE:NR)(fV:V=.agg #[Nr n,Nr m,ND bE])(X:NP)(cR:∀ W,NJ w W->NK 313 #[NM H 0,Nr (M.Ql s),ND nm] W fun e w'=>e=NU (.tuple #[V,X])/\NJ W w') :
  NK 290 #[NM H 0,Nr s,ND nm] w fun e w'=>e=NU (.tuple #[V,X])/\NJ w w':=by
 obtain⟨h0,h1,aG,hr,hl⟩:=h.c;have eW:NJ w (w.alloc vZ):=OM;obtain⟨q,r,dK,ez,U⟩:=XO (h.later eW) ae A s nm;have z:=kk (∀{G}(h:G:=by
 rw[<-oP] at cR;have dk:=hide cR;unfold vZ at dK ez;clear h cR oP
 rcases U with ⟨rfl,al⟩|⟨i,x,k,c,g,cap,rfl,_,_,_,al,rfl,_,a6⟩
 ·clear al ai;subst fV;go_enter func290,ntmps290;have z:=kk (∀{G}(h:G:=by
  have bM:=(((Below.refl _ w).alloc OH _).trans (D.mono Oq));obtain⟨dm,bT,cY,fp,nl⟩:=XH (D.mono Oq);have eg:Hid (∀ w2,NJ w1 w2->Below (w.heap.size+1) (w.alloc (.cells #[Nr 0,Nr 0,OG] 65)) w2):=fun w2 aE=>(D.mono Oq).trans (aE.mono Nw);clear dm bT cY fp;go_wp2_with fail;refine cm (dr.out w1 bM) ?_;rintro e w2 ⟨rfl,rfl⟩;go_wp2_with fail;refine cm (dk.out _ bM) ?_;rintro e ao ⟨rfl,bm⟩;obtain⟨dm,bT,cY,fp,MU⟩:=XH (eg.out ao bm);have ef:=(bM.trans (bm.mono bM.size));go_wp2_with fail
  refine bodyPost_ret (v:=.tuple #[.agg #[Nr n,Nr m,ND bE],X]) (by simp[results,results290,go_sem,dm,bT,cY]) rfl ⟨rfl,?_⟩;exact below3 ef OH _ _ _),G);exact agX
 ·rw[ai] at al;cases al),G);exact atE
theorem amh (s:Int)(nm:NR){c:Ce}(ai:M.XM s nm=some c) :
  NK 290 #[NM H 0,Nr s,ND nm] w fun e w'=>e=NU (if c.ready then .tuple #[.agg #[Nr c.v.k,Nr c.v.n,ND c.v.s],Pe] else .tuple #[.agg #[Nr 0,Nr 0,OG],.iface 34 (Nr 6)])/\NJ w w':=by
 obtain⟨h0,h1,aG,hr,hl⟩:=h.c;have eW:NJ w (w.alloc vZ):=OM;obtain⟨q,r,dK,ez,U⟩:=XO (h.later eW) ae A s nm;unfold vZ at dK ez;clear h
 rcases U with ⟨rfl,al⟩|⟨i,x,k,ft,g,cap,rfl,_,_,_,al,rfl,_,a6⟩
 ·rw[ai] at al;cases al
 ·rw[ai] at al;cases al;clear ai;have fs:=hide a6;clear a6
  cases a8:c.ready
  all_goals
   go_enter func290,ntmps290;go_wp2_with fail;refine cm dK ?_;rintro e w' ⟨rfl,rfl⟩;go_wp2_with fail;refine cm ez ?_;rintro e w1 ⟨rfl,D⟩;obtain⟨bZ,dx,_⟩:=fs.out w1 D;have eq:=bZ 1 _ rfl;have hp:=bZ 2 _ rfl;have jG:=bZ 3 _ rfl;have nE:=bZ 5 _ rfl;rw[a8] at nE;obtain⟨dm,bT,cY,fp,nl⟩:=XH (D.mono Oq);have bM:=(((Below.refl _ w).alloc OH _).trans (D.mono Oq));clear bZ;go_wp2_with fail
  ·refine bodyPost_ret (v:=.tuple #[.agg #[Nr 0,Nr 0,OG],.iface 34 (Nr 6)]) (by simp[results,results290,go_sem,dm,bT,cY]) rfl ⟨rfl,?_⟩;exact below3 bM OH _ _ _
  ·refine bodyPost_ret (v:=.tuple #[.agg #[Nr c.v.k,Nr c.v.n,ND c.v.s],Pe]) (by simp[results,results290,go_sem,dm,bT,cY]) rfl ⟨rfl,?_⟩;exact below3 bM OH _ _ _
end
end
def Th:List TypeId:=[84,185,207,198,262]
def Mo.Q5 (M:Mo)(i:Nat)(x:Ob):Mo:=⟨M.objs.set i x,M.NQ⟩
def Mo.Qw (M:Mo)(i:Nat)(x:Ro):Mo:=⟨M.objs,M.NQ.set i x⟩
theorem NS {a b c:Ny}{r:Option Nat}(h:a.grownBy b r)(k:b.grownBy c r):a.grownBy c r:=
 ⟨k.os.trans h.os,k.tape.trans h.tape,k.output.trans h.output,Nat.le_trans h.size k.size,fun j aT U=>(k.block j (Nat.lt_of_lt_of_le aT h.size) U).trans (h.block j aT U)⟩
section
variable {H:Nat} {R:List NP} {w w1:Ny} {M:Mo} {az aB:NP} {os b7:List NP}
theorem HP.ob1 (h:HP H R w M az aB os b7){objs:List Ob}{pQ:List NP}(a':Tb H 185 2 207 5 w1 az (objs.map Ob.h) pQ)(f:OB [185,207] H w w1):HP H R w1 ⟨objs,M.NQ⟩ az aB pQ b7/\OB Th H w w1:=
 ⟨⟨f.rest H _ 84 h.blk NH,a',h.ro.keep f NH NH⟩,f.mono NH OH⟩
theorem HP.ro1 (h:HP H R w M az aB os b7){NQ:List Ro}{mB:List NP}(a':Tb H 198 3 262 6 w1 aB (NQ.map Ro.h) mB)(f:OB [198,262] H w w1):HP H R w1 ⟨M.objs,NQ⟩ az aB os mB/\OB Th H w w1:=
 ⟨⟨f.rest H _ 84 h.blk NH,h.ob.keep f NH NH,a'⟩,f.mono NH OH⟩
theorem arO:∀ (bs:List Pr) (k:Nat) (b:Pr) (n:Va),bs[k]? = some b ->
  (((bs.flatMap Pr.h).set (k * 5+1) (Nr n.k)).set (k * 5+2) (Nr n.n)).set (k * 5+3) (ND n.s)=(bs.set k ⟨b.name,n,b.fixed⟩).flatMap Pr.h
 | [],k,b,n,h=>by simp at h
 | c::bs,0,b,n,h=>by
  simp at h;subst h;simp[Pr.h]
 | c::bs,k+1,b,n,h=>by
  have:=arO bs k b n (by simpa using h);have e:∀ j,(k+1) * 5+j=k * 5+j+1+1+1+1+1:=fun j=>by omega
  simp only[e,List.set_cons_succ,List.flatMap_cons,Pr.h,List.cons_append,List.nil_append] at this ⊢;rw[this]
theorem arP:∀ (bs:List Ce) (k:Nat) (b:Ce) (n:Va),bs[k]? = some b ->
  (((bs.flatMap Ce.h).set (k * 6+1) (Nr n.k)).set (k * 6+2) (Nr n.n)).set (k * 6+3) (ND n.s)=(bs.set k ⟨b.name,n,b.kind,b.ready⟩).flatMap Ce.h
 | [],k,b,n,h=>by simp at h
 | c::bs,0,b,n,h=>by
  simp at h;subst h;simp[Ce.h]
 | c::bs,k+1,b,n,h=>by
  have:=arP bs k b n (by simpa using h);have e:∀ j,(k+1) * 6+j=k * 6+j+1+1+1+1+1+1:=fun j=>by omega
  simp only[e,List.set_cons_succ,List.flatMap_cons,Ce.h,List.cons_append,List.nil_append] at this ⊢;rw[this]
theorem ami:∀ (bs:List Ce) (k:Nat) (b:Ce) (n:Va) (r:Bool),bs[k]? = some b ->
  ((((bs.flatMap Ce.h).set (k * 6+1) (Nr n.k)).set (k * 6+2) (Nr n.n)).set (k * 6+3) (ND n.s)).set (k * 6+5) (NI r)=(bs.set k ⟨b.name,n,b.kind,r⟩).flatMap Ce.h
 | [],k,b,n,r,h=>by simp at h
 | c::bs,0,b,n,r,h=>by
  simp at h;subst h;simp[Ce.h]
 | c::bs,k+1,b,n,r,h=>by
  have:=ami bs k b n r (by simpa using h);have e:∀ j,(k+1) * 6+j=k * 6+j+1+1+1+1+1+1:=fun j=>by omega
  simp only[e,List.set_cons_succ,List.flatMap_cons,Ce.h,List.cons_append,List.nil_append] at this ⊢;rw[this]
theorem HP.aDZ (h:HP H R w M az aB os b7){i:Nat}{x:Ob}(ay:M.objs[i]? = some x){g cap m:Nat}(ap:os[i]? = some (.slice (some (Nv g 0)) m cap)){k:Nat}{b:Pr}(D:x.ps[k]? = some b)(n:Va) :
  HP H R (((w.setCell (Nv g (k * 5+1)) (Nr n.k)).setCell (Nv g (k * 5+2)) (Nr n.n)).setCell (Nv g (k * 5+3)) (ND n.s)) (M.Q5 i ⟨x.code,x.ps.set k ⟨b.name,n,b.fixed⟩⟩) az aB os b7 /\
  OB Th H w (((w.setCell (Nv g (k * 5+1)) (Nr n.k)).setCell (Nv g (k * 5+2)) (Nr n.n)).setCell (Nv g (k * 5+3)) (ND n.s)):=by
 have oH:(M.objs.map Ob.h)[i]? = some x.h:=by simp[ay]
 have hrow:w.ownsRow H 207 5 _ x.ps.length (x.ps.flatMap Pr.h):=h.ob.own i x.h _ oH ap;obtain⟨gX,cap',hO,_⟩:=atP hrow D;simp only[Value.slice.injEq,Option.some.injEq,Addr.mk.injEq,and_true] at hO;obtain⟨rfl,rfl,rfl⟩:=hO;obtain⟨bQ,aY⟩:=hrow.stored (k * 5+1) (Nr n.k);obtain⟨b5,aX⟩:=bQ.stored (k * 5+2) (Nr n.n);obtain⟨d',cu⟩:=b5.stored (k * 5+3) (ND n.s);rw[arO x.ps k b n D] at d';have aJ:=h.ob.bump (Oi (lt_of_block h.blk)) oH ap (NS (NS aY aX) cu) d'
 refine h.ob1 (objs:=M.objs.set i ⟨x.code,x.ps.set k ⟨b.name,n,b.fixed⟩⟩) ?_ (aJ.2.mono NH OH);rw[List.map_set];have:=aJ.1;simpa[Ob.h] using this
section
variable (h:HP H R w M az aB os b7) {i:Nat} {x:Ro} (ay:M.NQ[i]? = some x) {g cap m:Nat} (ap:b7[i]? = some (.slice (some (Nv g 0)) m cap)) {k:Nat} {b:Ce} (D:x.cs[k]? = some b) (n:Va)
include h i x ay g cap m ap k b D n
theorem HP.apA :
  HP H R (((w.setCell (Nv g (k * 6+1)) (Nr n.k)).setCell (Nv g (k * 6+2)) (Nr n.n)).setCell (Nv g (k * 6+3)) (ND n.s)) (M.Qw i ⟨x.outer,x.object,x.cs.set k ⟨b.name,n,b.kind,b.ready⟩⟩) az aB os b7 /\
  OB Th H w (((w.setCell (Nv g (k * 6+1)) (Nr n.k)).setCell (Nv g (k * 6+2)) (Nr n.n)).setCell (Nv g (k * 6+3)) (ND n.s)):=by
 have z:=kk (∀{G}(h:G:=by
 rw[arP x.cs k b n D] at d';have aJ:=h.ro.bump (Oi (lt_of_block h.blk)) oH ap (NS (NS aY aX) cu) d';refine h.ro1 (NQ:=M.NQ.set i ⟨x.outer,x.object,x.cs.set k ⟨b.name,n,b.kind,b.ready⟩⟩) ?_ (aJ.2.mono NH OH);rw[List.map_set];have:=aJ.1;simpa[Ro.h] using this),G);exact ayj
theorem HP.ayk (r:Bool) :
  HP H R ((((w.setCell (Nv g (k * 6+1)) (Nr n.k)).setCell (Nv g (k * 6+2)) (Nr n.n)).setCell (Nv g (k * 6+3)) (ND n.s)).setCell (Nv g (k * 6+5)) (NI r)) (M.Qw i ⟨x.outer,x.object,x.cs.set k ⟨b.name,n,b.kind,r⟩⟩) az aB os b7 /\
  OB Th H w ((((w.setCell (Nv g (k * 6+1)) (Nr n.k)).setCell (Nv g (k * 6+2)) (Nr n.n)).setCell (Nv g (k * 6+3)) (ND n.s)).setCell (Nv g (k * 6+5)) (NI r)):=by
 have z:=kk (∀{G}(h:G:=by
 obtain⟨je,lU⟩:=d'.stored (k * 6+5) (NI r);rw[ami x.cs k b n r D] at je;have aJ:=h.ro.bump (Oi (lt_of_block h.blk)) oH ap (NS (NS (NS aY aX) cu) lU) je;refine h.ro1 (NQ:=M.NQ.set i ⟨x.outer,x.object,x.cs.set k ⟨b.name,n,b.kind,r⟩⟩) ?_ (aJ.2.mono NH OH);rw[List.map_set];have:=aJ.1;simpa[Ro.h] using this),G);exact ayj
end
variable {K:Nat}
abbrev vA (n:Va):NP:=.agg #[Nr n.k,Nr n.n,ND n.s]
abbrev vO (n:Va):Obj:=.cells #[Nr n.k,Nr n.n,ND n.s] 65
theorem ag1 (h:HP H R w M az aB os b7)(ae:M.Small K)(A:K<=1000000000)(s:Int)(nm:NR)(n:Va)(ai:M.XM s nm=none) :
  NK 198 #[NM H 0,Nr s,ND nm,.agg #[Nr n.k,Nr n.n,ND n.s]] w fun e w'=>e=NU (.iface 34 (Nr 7))/\NJ w w':=by
 have z:=kk (∀{G}(h:G:=by
 obtain⟨q,r,dK,ez,U⟩:=XO (h.later eW) ae A s nm;unfold vO at dK ez;clear h
 rcases U with ⟨rfl,al⟩|⟨i,x,k,ft,g,cap,rfl,_,_,_,al,rfl,_,a6⟩
 ·clear al ai;go_enter func198,ntmps198;exact ax5
 ·rw[ai] at al;cases al),G);exact amj
theorem ae9 {g i cap:Nat}{x:Ro}(h:HP H R w M az aB os b7)(ay:M.NQ[i]? = some x)(ap:b7[i]? = some (.slice (some (Nv g 0)) x.cs.length cap)):∃ c,w.heap[g]? = some (Og c 262):=
 OZ (h.ro.own i x.h _ (by simp[ay]) ap) rfl
theorem aE2 {g i cap:Nat}{x:Ob}(h:HP H R w M az aB os b7)(ay:M.objs[i]? = some x)(ap:os[i]? = some (.slice (some (Nv g 0)) x.ps.length cap)):∃ c,w.heap[g]? = some (Og c 207):=
 OZ (h.ob.own i x.h _ (by simp[ay]) ap) rfl
theorem ag2 (h:HP H R w M az aB os b7)(ae:M.Small K)(A:K<=1000000000)(i:Nat)(x:Ro)(ay:M.NQ[i]? = some x)(nm:NR)(n:Va)(k:Nat)(c:Ce)(E:fC nm x.cs=some k)(ai:x.cs[k]? = some c) :
  NK 198 #[NM H 0,Nr (i:Int),ND nm,.agg #[Nr n.k,Nr n.n,ND n.s]] w fun e w'=>e=NU Pe/\HP H R w' (M.Qw i ⟨x.outer,x.object,x.cs.set k ⟨c.name,n,c.kind,true⟩⟩) az aB os b7/\OB Th H w w':=by
 have z:=kk (∀{G}(h:G:=by
 obtain⟨q,r,dK,ez,U⟩:=XO (h.later eW) ae A i nm;unfold vO at dK ez;have mi:M.XM i nm=some c:=by
  exact ayl
 rcases U with ⟨rfl,al⟩|⟨hQ,x',lq,ft,g,cap,av,bC,ey,hE,al,rfl,ap,a6⟩
 ·rw[mi] at al;cases al
 ·obtain rfl:i=hQ:=Nw;rw[ay] at bC;cases bC;rw[E] at ey;cases ey;rw[ai] at hE;cases hE;obtain⟨mP,jr⟩:=ae9 (h.later eW) ay ap;have re:g≠w.heap.size:=PW jr (heap_alloc_new w _) NH;have fs:=hide a6;have bA:=hide ap;have f1:=hide ay;have fL:=hide ai;clear a6 ap al mi av E ay ai jr;go_enter func198,ntmps198;go_wp2_with fail;refine cm dK ?_;rintro e w' ⟨rfl,rfl⟩;go_wp2_with fail;refine cm ez ?_;rintro e w1 ⟨rfl,D⟩;obtain⟨bZ,dx,kg⟩:=fs.out w1 D;have eq:=bZ 1 _ rfl;have hp:=bZ 2 _ rfl;have jG:=bZ 3 _ rfl
  have nE:=bZ 5 _ rfl;obtain⟨dm,bT,cY,fp,nl⟩:=XH (D.mono Oq);have dN:=hide (((h.later eW).later D).ayk f1.out bA.out fL.out n true);have bM:=(((Below.refl _ w).alloc OH _).trans (D.mono Oq));clear bZ;go_wp2_with fail;go_ret;exact⟨rfl,dN.out.1,(OB.of bM (Oi hl)).trans dN.out.2⟩),G);exact amj
theorem aiA:(prog.info? 207).map (fun i=>(i.zero,i.size,i.bytes))=some (some (.agg #[OG,Nr 0,Nr 0,OG,NI false]),5,56):=by kernel_rfl
theorem ag3 (w:Ny)(H:Nat)(fk:w.heap.size=H)(x:NR)(b:Va)(r:Bool)(j:Nat)(u:NP)(h:([ND x,Nr b.k,Nr b.n,ND b.s,NI r]:List NP)[j]? = some u) :
  (w.alloc (.cells #[ND x,Nr b.k,Nr b.n,ND b.s,NI r] 207)).cell? (Addr.add (Nv H 0) j)=some u:=by
 subst fk
 match j,h with
 | 0,h=>simp at h;subst h;simp[Addr.add]
 | 1,h=>simp at h;subst h;simp[Addr.add]
 | 2,h=>simp at h;subst h;simp[Addr.add]
 | 3,h=>simp at h;subst h;simp[Addr.add]
 | 4,h=>simp at h;subst h;simp[Addr.add]
 | k+5,h=>simp at h
theorem amk (x:NR)(b:Va)(r:Bool):∀ u ∈ ([ND x,Nr b.k,Nr b.n,ND b.s,NI r]:List NP),u.oneCell'=true:=by
 intro u aO;simp at aO
 rcases aO with rfl|rfl|rfl|rfl|rfl <;> rfl
theorem HP.arN (h:HP H R w M az aB os b7){i:Nat}{x x':Ob}(ay:M.objs[i]? = some x){v v':NP}(ap:os[i]? = some v){g cap:Nat}(au:az=.slice (some (Nv g 0)) (M.objs.map Ob.h).length cap)
  (db:w.grownBy w1 v.ownBlock) (hown:w1.ownsRow H 207 5 v' x'.ps.length (x'.ps.flatMap Pr.h)) (iD:∀ q,v'.ownBlock=some q->v.ownBlock=some q\/w.heap.size<=q) (ac:x'.code=x.code) :
  HP H R (w1.setCell (Nv g (i * 2+1)) v') (M.Q5 i x') az aB (os.set i v') b7/\OB Th H w (w1.setCell (Nv g (i * 2+1)) v'):=by
 have oH:(M.objs.map Ob.h)[i]? = some x.h:=by simp[ay]
 have f9:=h.ob;rw[au] at f9;have aJ:=f9.put (Oi (lt_of_block h.blk)) oH ap db hown iD;rw[<-au] at aJ;refine h.ob1 (objs:=M.objs.set i x') ?_ aJ.2;rw[List.map_set];have:=aJ.1;rw[show x'.h=⟨x.h.hd,x'.ps.length,x'.ps.flatMap Pr.h⟩ by simp[Ob.h,ac]];exact this
theorem apB (h:HP H R w M az aB os b7)(o:Int)(nm:NR)(n:Va)(fx:Bool)(aM:M.ob o=none) :
  NK 56 #[NM H 0,Nr o,ND nm,.agg #[Nr n.k,Nr n.n,ND n.s],NI fx] w fun e w'=>e=NU (.iface 34 (Nr 7))/\NJ w w':=by
 obtain⟨h0,h1,aG,hr,hl⟩:=h.c;have hout:o<0\/(M.objs.length:Int)<=o:=by
  rcases Qm M o with ⟨_,h⟩|⟨i,x,rfl,_,h⟩
  ·exact h
  ·rw[aM] at h;cases h
 have ah:=(Xx az _ (Pv h.ob.row) o (by simpa using hout) (w.alloc (.cells #[Nr n.k,Nr n.n,ND n.s] 65)));clear h hout aM;go_enter func56,ntmps56;have z:=kk (∀{G}(h:G:=by
 go_ret;exact⟨rfl,OM⟩),G);exact aml
section
variable (h:HP H R w M az aB os b7) (ae:M.Small K) (A:K<=1000000000) (i:Nat) (x:Ob) (ay:M.objs[i]? = some x) (nm:NR) (n:Va) (fx:Bool)
include h ae A i x ay nm n fx
theorem aiG (k:Nat)(c:Pr)(E:fP nm x.ps=some k)(ai:x.ps[k]? = some c) :
  NK 56 #[NM H 0,Nr (i:Int),ND nm,.agg #[Nr n.k,Nr n.n,ND n.s],NI fx] w fun e w'=>e=NU Pe/\HP H R w' (M.Q5 i ⟨x.code,x.ps.set k ⟨c.name,n,c.fixed⟩⟩) az aB os b7/\OB Th H w w':=by
 have z:=kk (∀{G}(h:G:=by
 have z:=kk (∀{G}(h:G:=by
 obtain⟨iz,mO,rfl,cJ,_,_⟩:=atP hrow' ai;rw[E] at d3;simp only[ZM] at d3;unfold vO at ah d3;obtain⟨mP,jr⟩:=OZ hrow' rfl;have re:iz≠w.heap.size:=PW jr (heap_alloc_new w _) NH;have bA:=hide ap;have f1:=hide ay;have fL:=hide ai;clear dP E ay ai h jr ap bC;go_enter func56,ntmps56;have z:=kk (∀{G}(h:G:=by
 refine cm d3 ?_;rintro e w1 ⟨rfl,D⟩;obtain⟨gX,cap',hO,_,⟨bZ,dx,kg⟩,_⟩:=atP (N9 hrow' D) fL.out;have z:=kk (∀{G}(h:G:=by
 have eq:=bZ 1 _ rfl;have hp:=bZ 2 _ rfl;have jG:=bZ 3 _ rfl;obtain⟨dm,bT,cY,fp,nl⟩:=XH (D.mono Oq);have dN:=hide ((fk.later D).aDZ f1.out bA.out fL.out n);have bM:=(((Below.refl _ w).alloc OH _).trans (D.mono Oq));clear bZ;go_wp2_with fail;go_ret;exact⟨rfl,dN.out.1,(OB.of bM (Oi hl)).trans dN.out.2⟩),G);exact ae3),G);exact aml),G);exact aym),G);exact amj
theorem apC (E:fP nm x.ps=none) :
  NK 56 #[NM H 0,Nr (i:Int),ND nm,.agg #[Nr n.k,Nr n.n,ND n.s],NI fx] w fun e w'=>e=NU Pe/\(∃ pQ,HP H R w' (M.Q5 i ⟨x.code,x.ps++[⟨nm,n,fx⟩]⟩) az aB pQ b7)/\OB Th H w w':=by
 have z:=kk (∀{G}(h:G:=by
 have z:=kk (∀{G}(h:G:=by
 rw[E,Xy] at d3;have mu:=ae.ps x (List.mem_of_getElem? ay);unfold vO at ah d3;have bA:=hide ap;have f1:=hide ay;have jV:=hide bC;have k3:=hide (dP 1 v rfl);have HLEN:=hide mu;obtain⟨mw,d2,dH,b6,cq⟩:=info_parts aiA;clear dP E ay h ap bC mu;go_enter func56,ntmps56;have z:=kk (∀{G}(h:G:=by
 refine cm d3 ?_;rintro e w1 ⟨rfl,D⟩;have z:=kk (∀{G}(h:G:=by
 have gr:=(fk.later D);have qW:=(N9 hrow' D);have dx:g<w1.heap.size:=Nat.lt_of_lt_of_le hg D.size;have f7:w1.cell? (Nv g (i * 2+1))=some v:=(cell_below D (a:=(Nv g (i * 2+1))) hg).trans k3.out;have hfz1:w1.frozen? (Nv g (i * 2+1))=false:=(World.frozen?_of_block (w:=w.alloc (vO n)) (a:=(Nv g (i * 2+1))) (D.block g hg)).trans (ml _);go_wp2_with fail;refine wp_region_any OJ ?_;change wpAny _ _ _ _ _ _ _ (World.drew _);refine wt 0 (NM g (i * 2)) ?_;refine wt 1 (NM g (i * 2)) ?_;refine wt 2 (NM g (i * 2)) ?_
 refine wt 3 (NM g (i * 2+1)) ?_;refine wt 5 (ND nm) ?_;refine wt 7 (NI fx) ?_;refine wr2 4 6 (fun K A=>?ca) fun K A=>?cb
 case' ca=>
  go_simp;refine A _ _ ?_;clear A K;refine P6 6 fun K A=>?_;go_simp;refine A _ _ ?_;clear A K;refine wt 8 (.agg #[ND nm,Nr n.k,Nr n.n,ND n.s,NI fx]) ?_;refine P6 9 fun K A=>?_;go_simp;refine A _ _ ?_;clear A K
 case' cb=>
  go_simp;refine A _ _ ?_;clear A K;refine wt 8 (.agg #[ND nm,Nr n.k,Nr n.n,ND n.s,NI fx]) ?_;refine wr2 4 9 (fun K A=>?cc) fun K A=>?cd
 case' cc=>
  go_simp;refine A _ _ ?_;clear A K;refine P6 9 fun K A=>?_;go_simp;refine A _ _ ?_;clear A K
 case' cd=>
  go_simp;refine A _ _ ?_;clear A K;refine P6 4 fun K A=>?_;go_simp;refine A _ _ ?_;clear A K
 all_goals
  refine P6 10 fun K A=>?_;refine step_append_lies _ rfl _ _ 183 rfl H 207 mw _ 5 56 underlying183 d2 dH b6 cq rfl NH _ _ _ rfl (qW.drew.alloc _) (Nv w1.heap.size 0) 1 1 [ND nm,Nr n.k,Nr n.n,ND n.s,NI fx] rfl rfl (ag3 _ _ rfl _ _ _) (amk _ _ _) NH (by have:=HLEN.out;unfold maxLen;omega) (by have:=HLEN.out;omega) Qa (w1.heap.size+1) Oq ?_
  intro hG hD ao hown3 eQ c7 _;refine A _ _ ?_;clear A K;have db:w1.grownBy ao v.ownBlock:=NS (NS (b:=w1.drew) ⟨rfl,rfl,rfl,OH,fun _ _ _=>rfl⟩ (World.grownBy_alloc _ _ _)) eQ;have aJ:=gr.arN (x':=⟨x.code,x.ps++[⟨nm,n,fx⟩]⟩) f1.out bA.out jV.out db (v':=.slice (some (Nv hG 0)) (x.ps.length+1) hD) (by rw[List.flatMap_append];simpa[Pr.h] using hown3) (fun q ag=>by cases ag;exact c7.imp (fun e=>e) (fun e=>by rw[e];exact Nat.le_succ _)) rfl
  have dN:=hide aJ;have kr:ao.cell? (Nv g (i * 2+1))=some v/\ao.frozen? (Nv g (i * 2+1))=false:=by
   have ci:some g≠v.ownBlock:=fun e=>by
    obtain⟨_,_,g1⟩:=gr.ob.nes bA.out;exact(g1 g e.symm).2.2.1 (by rw[jV.out];rfl)
   have hbk:=db.block g dx ci;exact⟨(World.cell?_of_block (w:=w1) (a:=(Nv g (i * 2+1))) hbk).trans f7,(World.frozen?_of_block (w:=w1) (a:=(Nv g (i * 2+1))) hbk).trans hfz1⟩
  obtain⟨ry,rz⟩:=kr;clear aJ c7 f7 hfz1 dm bT cY fp;refine wt 11 (NM g (i * 2)) ?_;refine wt 12 (NM g (i * 2+1)) ?_;refine P6 13 fun K A=>?_;go_simp;refine A _ _ ?_;clear A K;refine wpAny_done OJ ?_ _;go_simp;go_wp2_with fail;go_ret;exact⟨rfl,⟨_,dN.out.1⟩,(OB.of bM (Oi hl)).trans dN.out.2⟩),G);exact amc),G);exact aml),G);exact aym),G);exact amj
end
theorem atG {i:Nat}{x:Ro}(ay:M.NQ[i]? = some x){nm:NR}{k:Nat}{c:Ce}(E:fC nm x.cs=some k)(ai:x.cs[k]? = some c):M.XM i nm=some c:=by
 exact ayl
theorem apD {i:Nat}{x:Ob}(ay:M.objs[i]? = some x){nm:NR}{k:Nat}{c:Pr}(E:fP nm x.ps=some k)(ai:x.ps[k]? = some c):M.prop i nm=some c:=by
 rcases UM (fun c=>YS nm c.name) x.ps with ⟨dZ,dW⟩|⟨lq,ft,dZ,dW,fO,_⟩
 ·rw[show fP nm x.ps=none from dZ] at E;cases E
 ·rw[show fP nm x.ps=some lq from dZ] at E;cases E;rw[ai] at dW;cases dW;simp[Mo.prop,atF ay,fO]
section
variable (h:HP H R w M az aB os b7) (ae:M.Small K) (A:K<=1000000000) (s:Int) (nm:NR) (n:Va)
include h ae A s nm n
theorem amm (hh:M.has s nm=false) :
  NK 267 #[NM H 0,Nr s,ND nm,.agg #[Nr n.k,Nr n.n,ND n.s]] w fun e w'=>e=NU (.iface 34 (Nr 7))/\NJ w w':=by
 have eW:NJ w (w.alloc (vO n)):=OM;have ba:=(Xz (h.later eW) ae A s nm);rw[hh] at ba;unfold vO at ba;clear hh;go_enter func267,ntmps267;go_wp2_with fail;refine cm ba ?_;exact ayn
theorem ag4 (ai:M.XM s nm=none)(j:Nat)(x:Ob)(aT:M.Ql s=j)(ac:M.objs[j]? = some x)(k:Nat)(p:Pr)(E:fP nm x.ps=some k)(al:x.ps[k]? = some p) :
  NK 267 #[NM H 0,Nr s,ND nm,.agg #[Nr n.k,Nr n.n,ND n.s]] w fun e w'=>e=NU Pe/\HP H R w' (M.Q5 j ⟨x.code,x.ps.set k ⟨p.name,n,p.fixed⟩⟩) az aB os b7/\OB Th H w w':=by
 have z:=kk (∀{G}(h:G:=by
 have ba:=(Xz (h.later eW) ae A s nm);rw[show M.has s nm=true by simp[Mo.has,aT,apD ac E al]] at ba;have dr:Hid (∀ w1,NJ w w1->NK 125 #[NM H 0,Nr s] w1 fun e w'=>e=NU (Nr j)/\w'=w1):=fun w1 D=>by rw[<-aT];exact Y8 (h.later D) s
 have Gq:Hid (∀ w1,NJ w w1->_):=fun w1 D=>aiG (h.later D) ae A j x ac nm n false k p E al;have dV:Hid (∀ w1,NJ w w1->_):=fun w1 D=>XO (h.later D) ae A s nm;have qU:=hide hl;have k3:=hide ai;have iw:=h;unfold vO at ba;clear h ai aT ac E al aG hr;have bP:=kk (∀{G}(h:G:=by
 obtain⟨ce,bV,_,_,_⟩:=(iw.later cp).c;have d6:r=none:=by
  rcases U with ⟨h,_⟩|⟨_,_,_,_,_,_,_,_,_,_,al,_⟩
  ·exact h
  ·rw[k3.out] at al;cases al
 subst d6;obtain⟨dm,bT,cY,fp,nl⟩:=XH (D.mono Oq);have eg:Hid (∀ w2,NJ w1 w2->Below (w.heap.size+1) (w.alloc (.cells #[Nr n.k,Nr n.n,ND n.s] 65)) w2):=fun w2 aE=>(D.mono Oq).trans (aE.mono Nw);have yw:Hid (∀ w2,NJ w1 w2->w2.heap[w.heap.size]? = some (Og #[Nr n.k,Nr n.n,ND n.s] 65)):=fun w2 aE=>((D.mono Oq).trans (aE.mono (Nat.succ_le_of_lt nl)) |>.block _ (Nat.lt_succ_self _)).trans (heap_alloc_new w _);have eR:=Nat.lt_of_lt_of_le hl cp.size;clear U dm bT cY fp;go_wp2_with fail;refine cm dK ?_;rintro e w' ⟨rfl,rfl⟩
 go_wp2_with fail;refine cm ez ?_;rintro e w2 ⟨rfl,aE⟩;have cf:=(cp.trans (aE.mono cp.size));obtain⟨dm,bT,cY,fp,yd⟩:=XH (eg.out w2 aE);have cq:w2.heap[w.heap.size]? = some (Og #[Nr n.k,Nr n.n,ND n.s] 65):=yw.out w2 aE;have r7:=hide cq;clear ce bV cq;go_wp2_with fail;refine wp_region_held (S:=fun W=>W.cell? (Nv w.heap.size 0)=some (Nr n.k)/\W.cell? (Nv w.heap.size 1)=some (Nr n.n)/\W.cell? (Nv w.heap.size 2)=some (ND n.s)) OJ ?_;change wpAnyH _ _ _ _ _ _ _ _ (World.drew _)
 have eU:Hid (w2.drew.cell? (Nv w.heap.size 0)=some (Nr n.k)/\w2.drew.cell? (Nv w.heap.size 1)=some (Nr n.n)/\w2.drew.cell? (Nv w.heap.size 2)=some (ND n.s)):=⟨dm,bT,cY⟩;refine wh 0 (NM H 0) eU.out ?_;refine wh 1 (NM H 0) eU.out ?_;refine wh 2 (Nr s) eU.out ?_;refine wh 4 (ND nm) eU.out ?_;refine wg 5 (.agg #[Nr n.k,Nr n.n,ND n.s]) rfl (Or.inl ⟨by kernel_rfl,fun W a6=>by obtain⟨bi,aY,aX⟩:=a6;go_simp⟩) eU.out ?_
 refine WG 3 fun K A=>?_;go_simp;refine cm (dr.out _ cf.drew) ?_;rintro e ao ⟨rfl,rfl⟩;refine A.out _ _ eU.out (fun _=>?_);clear A K;refine WG 6 fun K A=>?_;go_simp;refine cm (Gq.out _ cf.drew) ?_;rintro e bB ⟨rfl,lO,h2⟩;have hR:=((OB.of cf.drew (Oi qU.out)).trans h2);have kb:Hid (bB.cell? (Nv w.heap.size 0)=some (Nr n.k)/\bB.cell? (Nv w.heap.size 1)=some (Nr n.n)/\bB.cell? (Nv w.heap.size 2)=some (ND n.s)):=by
  have aU:=h2.rest _ _ 65 r7.out NH;refine⟨?_,?_,?_⟩ <;> simp[World.cell?,aU]
 refine A.out _ _ kb.out (fun _=>?_);clear A K h2;refine wh 7 Pe kb.out ?_;refine wpAnyH_done OJ ?_ _;go_simp;go_wp2_with fail;go_ret;exact⟨rfl,lO,hR⟩),G);exact ayo),G);exact amj
end
def aFu (c:Ce):Int:=if c.ready then (if c.kind=2 then 1 else if c.kind=3 then 5 else 0) else 6
section
variable (h:HP H R w M az aB os b7) (ae:M.Small K) (A:K<=1000000000) (i:Nat) (x:Ro) (ay:M.NQ[i]? = some x) (nm:NR) (n:Va) (k:Nat) (c:Ce) (E:fC nm x.cs=some k) (ai:x.cs[k]? = some c)
include h ae A i x ay nm n k c E ai
theorem afa (U:c.ready=false) :
  NK 267 #[NM H 0,Nr (i:Int),ND nm,.agg #[Nr n.k,Nr n.n,ND n.s]] w fun e w'=>e=NU (.iface 34 (Nr 6))/\NJ w w':=by
 have z:=kk (∀{G}(h:G:=by
 rcases U with ⟨_,al⟩|⟨hQ,x',lq,ft,g,cap,av,bC,ey,hE,al,rfl,ap,a6⟩
 ·rw[k3.out] at al;cases al
 obtain rfl:i=hQ:=Nw;rw[f1.out] at bC;cases bC;rw[f2.out] at ey;cases ey;rw[fL.out] at hE;cases hE;have fs:=hide a6;have bA:=hide ap;have lR:w1.heap[w.heap.size]? = some (Og #[Nr n.k,Nr n.n,ND n.s] 65):=(D.block _ Oq).trans (heap_alloc_new w _);obtain⟨mP,jr⟩:=ae9 (h.later cp) f1.out ap;have re:g≠w.heap.size:=PW jr lR NH;have eg:Hid (∀ w2,NJ w1 w2->Below (w.heap.size+1) (w.alloc (.cells #[Nr n.k,Nr n.n,ND n.s] 65)) w2):=fun w2 aE=>(D.mono Oq).trans (aE.mono (by have:=lt_of_block lR;omega))
 have eR:=Nat.lt_of_lt_of_le hl cp.size;clear al a6 ap lR jr av;go_wp2_with fail;refine cm dK ?_;rintro e w' ⟨rfl,rfl⟩;go_wp2_with fail;refine cm ez ?_;rintro e w2 ⟨rfl,aE⟩;obtain⟨bZ,dx,kg⟩:=fs.out w2 aE;have eq:=bZ 1 _ rfl;have hp:=bZ 2 _ rfl;have jG:=bZ 3 _ rfl;have lc:=bZ 4 _ rfl;have nE:=bZ 5 _ rfl;have cf:=(cp.trans (aE.mono cp.size));obtain⟨dm,bT,cY,fp,yd⟩:=XH (eg.out w2 aE);have dN:=hide ((h.later cf).apA f1.out bA.out fL.out n);clear ce bV bZ;rw[U] at nE;go_wp2_with fail;go_ret;exact⟨rfl,cf⟩),G);exact apE
theorem afb (U:c.ready=true)(O:c.kind=2) :
  NK 267 #[NM H 0,Nr (i:Int),ND nm,.agg #[Nr n.k,Nr n.n,ND n.s]] w fun e w'=>e=NU (.iface 34 (Nr 1))/\NJ w w':=by
 have z:=kk (∀{G}(h:G:=by
 rcases U with ⟨_,al⟩|⟨hQ,x',lq,ft,g,cap,av,bC,ey,hE,al,rfl,ap,a6⟩
 ·rw[k3.out] at al;cases al
 obtain rfl:i=hQ:=Nw;rw[f1.out] at bC;cases bC;rw[f2.out] at ey;cases ey;rw[fL.out] at hE;cases hE;have fs:=hide a6;have bA:=hide ap;have lR:w1.heap[w.heap.size]? = some (Og #[Nr n.k,Nr n.n,ND n.s] 65):=(D.block _ Oq).trans (heap_alloc_new w _);obtain⟨mP,jr⟩:=ae9 (h.later cp) f1.out ap;have re:g≠w.heap.size:=PW jr lR NH;have eg:Hid (∀ w2,NJ w1 w2->Below (w.heap.size+1) (w.alloc (.cells #[Nr n.k,Nr n.n,ND n.s] 65)) w2):=fun w2 aE=>(D.mono Oq).trans (aE.mono (by have:=lt_of_block lR;omega))
 have eR:=Nat.lt_of_lt_of_le hl cp.size;clear al a6 ap lR jr av;go_wp2_with fail;refine cm dK ?_;rintro e w' ⟨rfl,rfl⟩;go_wp2_with fail;refine cm ez ?_;rintro e w2 ⟨rfl,aE⟩;obtain⟨bZ,dx,kg⟩:=fs.out w2 aE;have eq:=bZ 1 _ rfl;have hp:=bZ 2 _ rfl;have jG:=bZ 3 _ rfl;have lc:=bZ 4 _ rfl;have nE:=bZ 5 _ rfl;have cf:=(cp.trans (aE.mono cp.size));obtain⟨dm,bT,cY,fp,yd⟩:=XH (eg.out w2 aE);have dN:=hide ((h.later cf).apA f1.out bA.out fL.out n);clear ce bV bZ;rw[U] at nE;rw[O] at lc;go_wp2_with fail;go_ret
 exact⟨rfl,cf⟩),G);exact apE
theorem aj7 (U:c.ready=true)(ax:c.kind=3) :
  NK 267 #[NM H 0,Nr (i:Int),ND nm,.agg #[Nr n.k,Nr n.n,ND n.s]] w fun e w'=>e=NU (.iface 34 (Nr 5))/\NJ w w':=by
 have z:=kk (∀{G}(h:G:=by
 rcases U with ⟨_,al⟩|⟨hQ,x',lq,ft,g,cap,av,bC,ey,hE,al,rfl,ap,a6⟩
 ·rw[k3.out] at al;cases al
 obtain rfl:i=hQ:=Nw;rw[f1.out] at bC;cases bC;rw[f2.out] at ey;cases ey;rw[fL.out] at hE;cases hE;have fs:=hide a6;have bA:=hide ap;have lR:w1.heap[w.heap.size]? = some (Og #[Nr n.k,Nr n.n,ND n.s] 65):=(D.block _ Oq).trans (heap_alloc_new w _);obtain⟨mP,jr⟩:=ae9 (h.later cp) f1.out ap;have re:g≠w.heap.size:=PW jr lR NH;have eg:Hid (∀ w2,NJ w1 w2->Below (w.heap.size+1) (w.alloc (.cells #[Nr n.k,Nr n.n,ND n.s] 65)) w2):=fun w2 aE=>(D.mono Oq).trans (aE.mono (by have:=lt_of_block lR;omega))
 have eR:=Nat.lt_of_lt_of_le hl cp.size;clear al a6 ap lR jr av;go_wp2_with fail;refine cm dK ?_;rintro e w' ⟨rfl,rfl⟩;go_wp2_with fail;refine cm ez ?_;rintro e w2 ⟨rfl,aE⟩;obtain⟨bZ,dx,kg⟩:=fs.out w2 aE;have eq:=bZ 1 _ rfl;have hp:=bZ 2 _ rfl;have jG:=bZ 3 _ rfl;have lc:=bZ 4 _ rfl;have nE:=bZ 5 _ rfl;have cf:=(cp.trans (aE.mono cp.size));obtain⟨dm,bT,cY,fp,yd⟩:=XH (eg.out w2 aE);have dN:=hide ((h.later cf).apA f1.out bA.out fL.out n);clear ce bV bZ;rw[U] at nE;rw[ax] at lc;go_wp2_with fail;go_ret
 exact⟨rfl,cf⟩),G);exact apE
theorem amn (U:c.ready=true)(O:c.kind≠2)(ax:c.kind≠3) :
  NK 267 #[NM H 0,Nr (i:Int),ND nm,.agg #[Nr n.k,Nr n.n,ND n.s]] w fun e w'=>e=NU Pe/\HP H R w' (M.Qw i ⟨x.outer,x.object,x.cs.set k ⟨c.name,n,c.kind,c.ready⟩⟩) az aB os b7/\OB Th H w w':=by
 have z:=kk (∀{G}(h:G:=by
 rcases U with ⟨_,al⟩|⟨hQ,x',lq,ft,g,cap,av,bC,ey,hE,al,rfl,ap,a6⟩
 ·rw[k3.out] at al;cases al
 obtain rfl:i=hQ:=Nw;rw[f1.out] at bC;cases bC;rw[f2.out] at ey;cases ey;rw[fL.out] at hE;cases hE;have fs:=hide a6;have bA:=hide ap;have lR:w1.heap[w.heap.size]? = some (Og #[Nr n.k,Nr n.n,ND n.s] 65):=(D.block _ Oq).trans (heap_alloc_new w _);obtain⟨mP,jr⟩:=ae9 (h.later cp) f1.out ap;have re:g≠w.heap.size:=PW jr lR NH;have eg:Hid (∀ w2,NJ w1 w2->Below (w.heap.size+1) (w.alloc (.cells #[Nr n.k,Nr n.n,ND n.s] 65)) w2):=fun w2 aE=>(D.mono Oq).trans (aE.mono (by have:=lt_of_block lR;omega))
 have eR:=Nat.lt_of_lt_of_le hl cp.size;clear al a6 ap lR jr av;go_wp2_with fail;refine cm dK ?_;rintro e w' ⟨rfl,rfl⟩;go_wp2_with fail;refine cm ez ?_;rintro e w2 ⟨rfl,aE⟩;obtain⟨bZ,dx,kg⟩:=fs.out w2 aE;have eq:=bZ 1 _ rfl;have hp:=bZ 2 _ rfl;have jG:=bZ 3 _ rfl;have lc:=bZ 4 _ rfl;have nE:=bZ 5 _ rfl;have cf:=(cp.trans (aE.mono cp.size));obtain⟨dm,bT,cY,fp,yd⟩:=XH (eg.out w2 aE);have dN:=hide ((h.later cf).apA f1.out bA.out fL.out n);clear ce bV bZ;rw[U] at nE;go_wp2_with fail;go_ret
 exact⟨rfl,dN.out.1,(OB.of cf (Oi qU.out)).trans dN.out.2⟩),G);exact apE
end
end
end Hp
end Go.Proofs.YticfnaiehdpbmaaGreatDoor
