import Derived.Test.YticfnaiehdpbmaaGreatDoorAg23
import Derived.Test.YticfnaiehdpbmaaGreatDoorAg22
set_option maxRecDepth 100000
set_option maxHeartbeats 8000000
set_option linter.unusedVariables false
namespace Go.Proofs.YticfnaiehdpbmaaGreatDoor
open Go.RowKit Go.Proofs.Tryz
namespace Hp
theorem row_of {w w':Ny}{B e sz:Nat}{v:NP}{n:Nat}{xs:List NP}(h:w.ownsRow B e sz v n xs)(E:∀ g cl,v.ownBlock=some g->w.heap[g]? = some (Og cl e)->w'.heap[g]? = some (Og cl e)):w'.ownsRow B e sz v n xs:=by
 refine⟨h.1,?_⟩
 rcases h.2 with aA|⟨g,cap,cl,ap,D,hg,rest⟩
 ·exact Or.inl aA
 ·exact Or.inr ⟨g,cap,cl,ap,D,E g cl (by rw[ap];rfl) hg,rest⟩
def Kp (w w':Ny):Prop:=∀ (b:Nat) (c:Array NP) (e:TypeId),w.heap[b]? = some (Og c e)->(e=40\/e=22)->w'.heap[b]? = some (Og c e)
mutual
theorem O7.kp {I:Nat->Prop}{w w':Ny}(h:Kp w w'):∀ (t:Tr) (p:Nat),O7 I w t p->O7 I w' t p
 | .mk kd tx n ks,p,aA=>by
  rw[O7] at aA ⊢;obtain⟨al,v,ps,D,U,E⟩:=aA;exact⟨al,v,ps,h _ _ _ D (Or.inl rfl),⟨row_of U.1 fun g cl _ hg=>h _ _ _ hg (Or.inr rfl),U.2⟩,NT.kp h ks ps E⟩
theorem NT.kp {I:Nat->Prop}{w w':Ny}(h:Kp w w'):∀ (am:List Tr) (ps:List Nat),NT I w am ps->NT I w' am ps
 | [],ps,aA=>by rw[NT] at aA ⊢;exact aA
 | t::am,ps,aA=>by
  rw[NT] at aA ⊢;obtain⟨p,eu,M,rfl,h1,O⟩:=aA;exact⟨p,eu,M,rfl,O7.kp h t p h1,NT.kp h am eu O⟩
end
mutual
theorem QD.kp {I:Nat->Prop}{w w':Ny}(h:Kp w w'):∀ a:Ad,QD I w a->QD I w' a
 | .mk p kd tx n ks,aw=>by
  rw[QD] at aw ⊢;obtain⟨aA,al,⟨v,D,U⟩,E⟩:=aw;exact⟨O7.kp h _ _ aA,al,⟨v,h _ _ _ D (Or.inl rfl),row_of U.1 fun g cl _ hg=>h _ _ _ hg (Or.inr rfl),U.2⟩,Qd.kp h ks E⟩
theorem Qd.kp {I:Nat->Prop}{w w':Ny}(h:Kp w w'):∀ es:List Ad,Qd I w es->Qd I w' es
 | [],_=>by rw[Qd];trivial
 | a::es,aw=>by
  rw[Qd] at aw ⊢;exact⟨QD.kp h a aw.1,Qd.kp h es aw.2⟩
end
def Tm:List TypeId:=Th++[9,54,3,211]
structure Om (L:Option Nat)(B:Nat)(w w':Ny):Prop where
 below:Below B w w'
 rest:∀ (b:Nat) c (e:TypeId),w.heap[b]? = some (Og c e)->e ∉ Tm->some b≠L->w'.heap[b]? = some (Og c e)
section
variable {L:Option Nat} {B:Nat} {w w' w2:Ny}
theorem Om.of (D:NJ w w')(aZ:B<=w.heap.size):Om L B w w':=⟨D.mono aZ,fun b _ _ h _ _=>(D.block b (lt_of_block h)).trans h⟩
theorem Om.trans (h:Om L B w w')(k:Om L B w' w2):Om L B w w2:=⟨h.below.trans k.below,fun x y e bE q r=>k.rest x y e (h.rest x y e bE q r) q r⟩
theorem Om.up (h:Om none B w w'):Om L B w w':=⟨h.below,fun x y e bE q _=>h.rest x y e bE q Oq⟩
theorem Om.ofT (h:OB Th B w w'):Om L B w w':=⟨h.below,fun x y e bE q _=>h.rest x y e bE (fun h=>q (List.mem_append_left _ h))⟩
theorem Om.down {b:Nat}(h:Om (some b) B w w')(D:w.heap.size<=b):Om none B w w':=⟨h.below,fun x y e bE q _=>h.rest x y e bE q (fun e=>by cases e;exact absurd (lt_of_block bE) Nw)⟩
theorem Om.kp (h:Om L B w w')(dz:∀ b,L=some b->∃ c,w.heap[b]? = some (Og c 65)):Kp w w':=fun b c e D au=>h.rest b c e D (by rcases au with rfl|rfl <;> decide) (fun hl=>by
 obtain⟨ft,ai⟩:=dz b hl.symm;exact PW D ai (by rcases au with rfl|rfl <;> decide) rfl)
theorem Kp.of (D:NJ w w'):Kp w w':=fun b _ _ h _=>(D.block b (lt_of_block h)).trans h
theorem OB.kp (h:OB Th B w w'):Kp w w':=fun b c e D au=>h.rest b c e D (by rcases au with rfl|rfl <;> decide)
end
structure Oa (aa:List Nat)(w:Ny)(a:Ad)(d:Nd):Prop where
 at_:QD (fun _=>True) w a
 tr:a.tr=d.2
 no:match d.1 with
  | some k=>∃ iW post,aa=iW++a.TG++post/\iW.length=k
  | none=>∀ q ∈ a.TG,q ∉ aa
theorem Oa.kp {aa:List Nat}{w w':Ny}{a:Ad}{d:Nd}(h:Oa aa w a d)(E:Kp w w'):Oa aa w' a d:=⟨QD.kp E _ h.at_,h.tr,h.no⟩
theorem afw {aa:List Nat}{w:Ny}:∀ (es:List Ad) (no:Option Nat) (i:Nat) (k:Ad),Qd (fun _=>True) w es->es[i]? = some k ->
  (match no with
   | some n=>∃ iW post,aa=iW++Ad.Rl es++post/\iW.length=n
   | none=>∀ q ∈ Ad.Rl es,q ∉ aa)->∃ fU,(ZN no (Ad.trs es))[i]? = some fU/\Oa aa w k fU
 | [],_,i,k,_,h,_=>by simp at h
 | e::es,no,0,k,aw,h,aA=>by
  simp at h;subst h;rw[Qd] at aw;refine⟨(no,e.tr),by rw[Ad.trs,ZN];rfl,aw.1,rfl,?_⟩
  cases no with
  | none=>exact fun q ag=>aA q (by rw[Ad.Rl];exact List.mem_append_left _ ag)
  | some n=>
   obtain⟨iW,post,h1,O⟩:=aA;exact⟨iW,Ad.Rl es++post,by rw[h1,Ad.Rl];simp,O⟩
 | e::es,no,i+1,k,aw,h,aA=>by
  rw[Qd] at aw;obtain⟨fU,h1,O⟩:=afw es (no.map (· + e.tr.count)) i k aw.2 (by simpa using h) (by
   cases no with
   | none=>exact fun q ag=>aA q (by rw[Ad.Rl];exact List.mem_append_right _ ag)
   | some n=>
    obtain⟨iW,post,h1,O⟩:=aA;exact⟨iW++e.TG,post,by rw[h1,Ad.Rl];simp,by rw[List.length_append,O,Ad.aij,Ad.agF]⟩)
  exact⟨fU,by rw[Ad.trs,ZN];simpa using h1,O⟩
theorem Oa.kid {aa:List Nat}{w:Ny}{a:Ad}{d:Nd}(h:Oa aa w a d){i:Nat}{k:Ad}(E:a.ks[i]? = some k):∃ fU,(O3 d)[i]? = some fU/\Oa aa w k fU:=by
 obtain⟨h1,O,ax⟩:=h;obtain⟨no,t⟩:=d
 cases a with
 | mk p kd tx n ks=>
  rw[QD] at h1;have e:t=.mk kd tx n (Ad.trs ks):=by rw[Ad.tr] at O;exact O.symm
  subst e;refine afw ks (no.map (· + 1)) i k h1.2.2.2 E ?_
  cases no with
  | none=>exact fun q ag=>ax q (by rw[Ad.TG];exact List.mem_cons_of_mem _ ag)
  | some m=>
   obtain⟨iW,post,aU,bN⟩:=ax;exact⟨iW++[p],post,by rw[aU,Ad.TG];simp,by simp[bN]⟩
theorem afx:∀ (no:Option Nat) (am:List Tr),(ZN no am).length=am.length
 | _,[]=>rfl
 | no,t::am=>by rw[ZN,List.length_cons,afx,List.length_cons]
theorem QI (d:Nd):(O3 d).length=d.2.kids.length:=afx _ _
theorem Oa.ks {aa:List Nat}{w:Ny}{a:Ad}{d:Nd}(h:Oa aa w a d):a.ks.length=d.2.kids.length:=by
 rw[<-h.tr,a.aif.2.2,List.length_map]
theorem aa6:∀ (no:Option Nat) (am:List Tr),(ZN no am).map (·.2)=am
 | _,[]=>rfl
 | no,t::am=>by rw[ZN,List.map_cons,aa6]
section
variable {aa:List Nat} {w:Ny} {a:Ad} {d:Nd} (h:Oa aa w a d)
include aa w a d h
theorem Oa.azu {i:Nat}(ay:i<d.2.kids.length):∃ k,a.ks[i]? = some k/\(O3 d)[i]? = some (Nz d i)/\Oa aa w k (Nz d i):=by
 obtain⟨k,E⟩:∃ k,a.ks[i]? = some k:=⟨_,List.getElem?_eq_getElem (by rw[h.ks];exact ay)⟩
 obtain⟨fU,h1,O⟩:=h.kid E;have e:Nz d i=fU:=by unfold Nz;rw[List.getD_eq_getElem?_getD,h1];rfl
 rw[e];exact⟨k,E,h1,O⟩
theorem Oa.cells:a.p<w.heap.size/\w.cell? (Nv a.p 0)=some (Nr d.2.kd)/\w.cell? (Nv a.p 1)=some (ND d.2.tx)/\w.cell? (Nv a.p 2)=some (Nr d.2.n) /\
  ∃ v,w.cell? (Nv a.p 3)=some v/\alg (fun _=>True) w v (a.ks.map Ad.p):=by
 obtain⟨h1,O,_⟩:=h;rw[<-O]
 cases a with
 | mk p kd tx n ks=>
  rw[QD] at h1;obtain⟨_,al,⟨v,D,U⟩,_⟩:=h1;obtain⟨c0,c1,c2,c3,_⟩:=node_cells D;rw[Ad.tr];exact⟨lt_of_heap D,c0,c1,c2,v,c3,U⟩
end
section
variable {w:Ny} {v:NP} {ps:List Nat} (h:alg (fun _=>True) w v ps)
include w v ps h
theorem awq:∃ aC cap,v=.slice aC ps.length cap:=by
 rcases h.1.2 with ⟨rfl,O⟩|⟨g,cap,_,rfl,_⟩
 ·exact⟨none,0,by rw[O]⟩
 ·exact⟨_,_,rfl⟩
theorem akw {i q:Nat}(ag:ps[i]? = some q):∃ g cap,v=.slice (some (Nv g 0)) ps.length cap/\g<w.heap.size/\w.cell? (Nv g i)=some (Nu q):=by
 have ay:i<ps.length:=(List.getElem?_eq_some_iff.1 ag).1;obtain⟨g,cap,rfl,_,_⟩:=h.1.form Nw;refine⟨g,cap,rfl,(h.1.lt g rfl).2,?_⟩;rw[h.1.cellAt i Nw];simp[ag]
end
theorem Oa.Xe {aa:List Nat}{w:Ny}{a:Ad}{d:Nd}(h:Oa aa w a d){i:Nat}(ay:i<d.2.kids.length) :
  ∃ k g cap,w.cell? (Nv a.p 3)=some (.slice (some (Nv g 0)) d.2.kids.length cap)/\w.cell? (Nv g i)=some (Nu k.p)/\Oa aa w k (Nz d i)/\(O3 d)[i]? = some (Nz d i):=by
 obtain⟨k,E,h1,O⟩:=h.azu ay;obtain⟨_,_,_,_,v,c3,U⟩:=h.cells;obtain⟨g,cap,rfl,_,ai⟩:=akw U (i:=i) (q:=k.p) (by simp[E]);rw[List.length_map,h.ks] at c3;exact⟨k,g,cap,c3,ai,O,h1⟩
abbrev sn2 (e:Int × Int):List NP:=[Nr e.1,Nr e.2]
abbrev fn3 (e:Ad × Fu):List NP:=[Nu e.1.p,Nr e.2.scope,NI e.2.strict]
structure Bs (w0:Ny)(mb af:Nat)(aa:List Nat)(es:NP):Prop where
 sz:w0.heap.size=mb
 nm:w0.heap[af]? = some (.map (VK (Ve aa)) aa.length)
 an:∀ q ∈ aa,Cl w0 q
 nd:aa.Nodup
 es:w0.cell? (Nv 1 0)=some es
structure Mx (w0:Ny)(mb af:Nat)(aa:List Nat)(aS aB az aL:NP)(w:Ny)(σ:St):Prop where
 bw:Below mb w0 w
 hh:OO mb (mR σ aS aB az aL af) w σ.M
 lg:w.ownsRow mb 9 1 aS σ.log.length (σ.log.map Value.string)
 se:w.ownsRow mb 54 2 aB σ.seen.length (σ.seen.flatMap sn2)
 ow:w.ownsRow mb 3 1 az σ.PS.length (σ.PS.map (Value.int .i64))
 fu:∃ d0:List Ad,d0.length=σ.Qn.length/\w.ownsRow mb 211 3 aL σ.Qn.length ((d0.zip σ.Qn).flatMap fn3)/\∀ (i:Nat) a f,d0[i]? = some a->σ.Qn[i]? = some f->Oa aa w a f.d
section
variable {w0:Ny} {mb af:Nat} {aa:List Nat} {es aS aB az aL:NP} {w w':Ny} {σ:St}
section
variable (h:Mx w0 mb af aa aS aB az aL w σ)
include h
theorem Mx.lt:mb<w.heap.size:=h.hh.lt
theorem Mx.later (D:NJ w w'):Mx w0 mb af aa aS aB az aL w' σ:=by
 exact azA
end
structure P9 (B:Nat)(o f gP gV:NP)(w w':Ny):Prop where
 below:Below B w w'
 rest:∀ (b:Nat) c (e:TypeId),w.heap[b]? = some (Og c e)->e ∉ Th->o.ownBlock≠some b->f.ownBlock≠some b->w'.heap[b]? = some (Og c e)
 oo:∀ k,gP.ownBlock=some k->o.ownBlock=some k\/w.heap.size<=k
 ff:∀ k,gV.ownBlock=some k->f.ownBlock=some k\/w.heap.size<=k
theorem P9.trans {B:Nat}{o f bG dZ iU dW:NP}{w w1 w2:Ny}(h:P9 B o f bG dZ w w1)(k:P9 B bG dZ iU dW w1 w2):P9 B o f iU dW w w2:=by
 refine⟨h.below.trans k.below,fun b c e D au aM aG=>?_,fun q ag=>?_,fun q ag=>?_⟩
 ·refine k.rest b c e (h.rest b c e D au aM aG) au (fun e=>?_) (fun e=>?_)
  ·rcases h.oo b e with e|e
   ·exact aM e
   ·exact absurd (lt_of_block D) Nw
  ·rcases h.ff b e with e|e
   ·exact aG e
   ·exact absurd (lt_of_block D) Nw
 ·rcases k.oo q ag with e|e
  ·exact h.oo q e
  ·exact .inr (Nat.le_trans h.below.size e)
 ·rcases k.ff q ag with e|e
  ·exact h.ff q e
  ·exact .inr (Nat.le_trans h.below.size e)
theorem P9.of {B:Nat}{o f:NP}{w w':Ny}(D:NJ w w')(aZ:B<=w.heap.size):P9 B o f o f w w':=⟨D.mono aZ,fun b _ _ h _ _ _=>(D.block b (lt_of_block h)).trans h,fun _ h=>.inl h,fun _ h=>.inl h⟩
theorem P9.ofT {B:Nat}{o f:NP}{w w':Ny}(h:OB Th B w w'):P9 B o f o f w w':=⟨h.below,fun b c e D au _ _=>h.rest b c e D au,fun _ h=>.inl h,fun _ h=>.inl h⟩
theorem P9.ZO {gP gV:NP}{L:Option Nat}(h:P9 mb az aL gP gV w w')(ac:Mx w0 mb af aa aS aB az aL w σ):Om L mb w w':=by
 obtain⟨d0,_,O,_⟩:=ac.fu;refine⟨h.below,fun b c e D au _=>h.rest b c e D (fun q=>au (List.mem_append_left _ q)) (fun q=>?_) (fun q=>?_)⟩
 ·obtain⟨ft,ai⟩:=OZ ac.ow q;exact PW D ai (by rintro rfl;exact au NH) rfl
 ·obtain⟨ft,ai⟩:=OZ O q;exact PW D ai (by rintro rfl;exact au NH) rfl
theorem P9.kp {gP gV:NP}(h:P9 mb az aL gP gV w w')(ac:Mx w0 mb af aa aS aB az aL w σ):Kp w w':=(h.ZO (L:=none) ac).kp (fun b e=>by cases e)
theorem Mx.heap (h:Mx w0 mb af aa aS aB az aL w σ){M:Mo}(hh:OO mb (mR σ aS aB az aL af) w' M)(aG:OB Th mb w w'):Mx w0 mb af aa aS aB az aL w' { σ with M:=M }:=by
 exact azB
end
theorem afH (m k:Nat)(l:List (Nat × NP))(p:Nat)(W:Ny)(aV:W.heap[m]? = some (.map (VK l) k))(al:Cl W p)(hl:∀ e ∈ l,Cl W e.1) :
  (Instr.lookup 80 (.map (some m)) (Nu p) true).run prog W=.ok (.tuple #[((l.find? (fun e=>decide (p=e.1))).map (·.2)).getD (Nr 0),NI (l.find? (fun e=>decide (p=e.1))).isSome]) W:=by
 obtain⟨o,ax,O⟩:=aiR al l hl;have q8:=underlying22;have zN:=underlying80;have aJ:(zeroValue 3).run prog W=.ok (Nr 0) W:=by kernel_rfl
 unfold Instr.lookup;rw[Sem.run_bind,run_underlying zN W];have eI:∀ b,(Instr.checkKey b 10000 22 (Nu p)).run prog W=.ok () W:=by
  intro b;rw[Instr.checkKey,Sem.run_bind,run_underlying q8 W];rfl
 have hg:(getObj m).run prog W=.ok (.map (VK l) k) W:=by simp[getObj,Sem.run,aV]
 simp only[Result.andThen_ok,Sem.run_bind,hg,Sem.run_pure,eI,ax]
 cases o with
 | none=>
  cases aG:l.find? (fun e=>decide (p=e.1)) with
  | none=>simp[aJ]
  | some x=>rw[aG] at O;simp at O
 | some y=>
  cases aG:l.find? (fun e=>decide (p=e.1)) with
  | none=>rw[aG] at O;simp at O
  | some x=>rw[aG] at O;simp at O;simp[O]
theorem afI (p:Nat):∀ (iW post:List Nat) (n:Nat),p ∉ iW->(((iW++p::post).zipIdx n).map fun e=>(e.1,Value.int .i64 (e.2:Int))).find? (fun e=>decide (p=e.1))=some (p,Nr ((n+iW.length:Nat):Int))
 | [],post,n,_=>by simp
 | x::iW,post,n,h=>by
  have ac:p≠x:=fun e=>h (by simp[e]);rw[List.cons_append,List.zipIdx_cons,List.map_cons,List.find?_cons];simp only[decide_eq_false ac];rw[afI p iW post (n+1) (fun e=>h (List.mem_cons_of_mem _ e)),List.length_cons,show n+1+iW.length=n+(iW.length+1) by omega]
def noV (d:Nd):Int:=match d.1 with
 | some k=>k
 | none=>0
theorem Oa.find {aa:List Nat}{w:Ny}{a:Ad}{d:Nd}(h:Oa aa w a d)(hd:aa.Nodup) :
  (((Ve aa).find? (fun e=>decide (a.p=e.1))).map (·.2)).getD (Nr 0)=Nr (noV d)/\((Ve aa).find? (fun e=>decide (a.p=e.1))).isSome=d.1.isSome:=by
 obtain⟨_,_,ax⟩:=h;obtain⟨no,t⟩:=d
 cases no with
 | none=>
  rw[acJ (ax a.p (by rw[aak];simp))]
  exact⟨rfl,rfl⟩
 | some k=>
  obtain⟨iW,post,rfl,E⟩:=ax;have aA:a.p ∉ iW:=by
   rw[aak,List.append_assoc,List.nodup_append] at hd;exact fun aV=>hd.2.2 _ aV _ Oq rfl
  have e:(Ve (iW++a.TG++post)).find? (fun e=>decide (a.p=e.1))=some (a.p,Nr (k:Int)):=by
   unfold Ve;rw[aak,List.append_assoc,List.cons_append,afI a.p iW _ 0 aA,Nat.zero_add,E]
  rw[e];exact⟨rfl,rfl⟩
section
variable {w0:Ny} {mb af:Nat} {aa:List Nat} {es aS aB az aL:NP} {w w':Ny} {σ:St}
theorem OO.keep {H B:Nat}{R:List NP}{M:Mo}{T:List TypeId}(h:OO H R w M)(f:OB T B w w')(h1:84 ∉ T)(O:185 ∉ T)(ax:207 ∉ T)(aU:198 ∉ T)(bN:262 ∉ T):OO H R w' M:=by
 obtain⟨o,s,os,b7,h⟩:=h;exact⟨o,s,os,b7,f.rest _ _ _ h.blk h1,h.ob.keep f O ax,h.ro.keep f aU bN⟩
theorem adR (aZ:Bs w0 mb af aa es)(ac:Below mb w0 w){a:Ad}{d:Nd}(hd:Oa aa w a d) :
  (Instr.lookup 80 (.map (some af)) (Nu a.p) true).run prog w=.ok (.tuple #[Nr (noV d),NI d.1.isSome]) w:=by
 have aV:w.heap[af]? = some (.map (VK (Ve aa)) aa.length):=(ac.block af (by rw[<-aZ.sz];exact lt_of_heap aZ.nm)).trans aZ.nm
 have h1:=afH af _ (Ve aa) a.p w aV hd.at_.cl (fun e au=>by
  obtain⟨cs,t,ai⟩:=aZ.an _ (abb au);exact⟨cs,t,(ac.block _ (by rw[<-aZ.sz];exact lt_of_heap ai)).trans ai⟩)
 rw[(hd.find aZ.nd).1,(hd.find aZ.nd).2] at h1;exact h1
theorem XD (aZ:Bs w0 mb af aa es)(ac:Mx w0 mb af aa aS aB az aL w σ){a:Ad}{d:Nd}(hd:Oa aa w a d) :
  NK 51 #[Nu mb,Nu a.p] w fun e w'=>e=NU (Nr (own d))/\w'=w:=by
 have hl:=adR aZ ac.bw hd;obtain⟨xk,zF⟩:=ac.hh.at_ 5 _ rfl;have bI:=ac.lt;obtain⟨p,al⟩:=xE a.p;rw[<-al] at hl ⊢;obtain⟨no,t⟩:=d;clear al
 cases no with
 | none=>
  have av:own (none,t) = -3:=rfl;exact aAb
 | some k=>
  have av:own (some k,t)=(k:Int):=rfl;exact aAc
theorem Mx.aiD (h:Mx w0 mb af aa aS aB az aL w σ)(x:Int){ao:Ny}{TW:NP}(hg:w.grownBy ao az.ownBlock)(aM:ao.ownsRow mb 3 1 TW (σ.PS.length+1) (σ.PS.map (Value.int .i64)++[Nr x]))
  (ag:∀ q,TW.ownBlock=some q->az.ownBlock=some q\/w.heap.size<=q) :
  Mx w0 mb af aa aS aB TW aL (ao.setCell (Nv mb 8) TW) { σ with PS:=σ.PS++[x] }/\P9 mb az aL TW aL w (ao.setCell (Nv mb 8) TW):=by
 exact aAd
theorem ahw (w:Ny)(q:Int)(H:Nat)(h:w.heap.size=H):∀ j u,[Value.int .i64 q][j]? = some u->(w.alloc (.cells #[Nr q] 3)).cell? (((Nv H 0):Addr).add j)=some u:=by
 intro j u aT;subst h
 cases j with
 | zero=>
  simp at aT;subst aT;simp[Addr.add]
 | succ j=>simp at aT
theorem anf (q:Int):∀ u ∈ [Value.int .i64 q],u.oneCell'=true:=by
 intro u aO;rw[List.mem_singleton.1 aO];rfl
theorem info3:(prog.info? 3).map (fun i=>(i.zero,i.size,i.bytes))=some (some (Nr 0),1,8):=by kernel_rfl
theorem open_any (ac:Mx w0 mb af aa aS aB az aL w σ)(u o x:Int)(hl:σ.PS.length<=1000000000)
  (iS:∀ X R,OO mb R X σ.M->NK 105 #[Nu mb,Nr u,Nr o] X fun e w'=>e=NU (Nr (σ.M.NQ.length:Int))/\OO mb R w' (σ.M.scope u o)/\OB Th mb X w') :
  NK 50 #[Nu mb,Nr u,Nr o,Nr x] w fun e w'=>e=NU (Nr σ.top)/\∃ TW,Mx w0 mb af aa aS aB TW aL w' (σ.opn u o x)/\P9 mb az aL TW aL w w':=by
 have z:=kk (∀{G}(h:G:=by
 show NK 50 #[Nu mb,Nr u,Nr o,Nr x] w fun e w'=>e=NU (Nr (σ.M.NQ.length:Int))/\∃ TW,Mx w0 mb af aa aS aB TW aL w' (σ.opn u o x)/\P9 mb (.slice aC n iK) aL TW aL w w'
 exact aAe),G);exact aAf
end
end Hp
end Go.Proofs.YticfnaiehdpbmaaGreatDoor
