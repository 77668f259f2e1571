import Derived.Test.YticfnaiehdpbmaaGreatDoorWa8
set_option maxRecDepth 100000
set_option maxHeartbeats 0
set_option linter.all false
namespace Go.Proofs.YticfnaiehdpbmaaGreatDoor
open Go.RowKit Go.Proofs.Tryz
namespace Hp
def j3 {k e:Py}{f c j:Nat}{d:PO}{i:Nat}{l:List PO}(h:k.ownsRow f c j d i l)(n:∀a b,d.ownBlock=some a->k.heap[a]?=some (Qb b c)->e.heap[a]?=some (Qb b c)):e.ownsRow f c j d i l:=by
 refine⟨h.1,?_⟩
 rcases h.2 with o|⟨a,p,b,g,m,q,rest⟩
 ·exact fU o
 ·exact f4 ⟨a,p,b,g,m,n a b (by rw[g];rfl) q,rest⟩
def Kp (e d:Py):Prop:=∀(b:Nat)(c:Array PO)(a:TypeId),e.heap[b]?=some (Qb c a)->(a=40\/a=22)->d.heap[b]?=some (Qb c a)
mutual
def QT.kp {c:Nat->Prop}{i b:Py}(h:Kp i b):∀(g:Tr)(a:Nat),QT c i g a->QT c b g a
 |.mk r t s n,a,e=>by
  rw[QT] at e ⊢;obtain⟨l,o,f,j,d,k⟩:=e;exact⟨l,o,f,h _ _ _ j (fU rfl),⟨j3 d.1 λq p _ m=>h _ _ _ m (f4 rfl),d.2⟩,P6.kp h n f k⟩
def P6.kp {e:Nat->Prop}{i d:Py}(h:Kp i d):∀(b:List Tr)(c:List Nat),P6 e i b c->P6 e d b c
 |[],c,a=>by rw[P6] at a ⊢;exact a
 |m::b,c,a=>by
  rw[P6] at a ⊢;obtain⟨g,f,j,rfl,l,k⟩:=a;exact⟨g,f,j,rfl,QT.kp h m g l,P6.kp h b f k⟩
end
mutual
def Rl.kp {b:Nat->Prop}{f a:Py}(h:Kp f a):∀c:Ad,Rl b f c->Rl b a c
 |.mk s q t r m,e=>by
  rw[Rl] at e ⊢;obtain⟨k,j,⟨n,g,d⟩,i⟩:=e;exact⟨QT.kp h _ _ k,j,⟨n,h _ _ _ g (fU rfl),j3 d.1 λp o _ l=>h _ _ _ l (f4 rfl),d.2⟩,Sl.kp h m i⟩
def Sl.kp {d:Nat->Prop}{e c:Py}(h:Kp e c):∀a:List Ad,Sl d e a->Sl d c a
 |[],_=>by rw[Sl];trivial
 |f::a,b=>by
  rw[Sl] at b ⊢;exact⟨Rl.kp h f b.1,Sl.kp h a b.2⟩
end
def Tm:List TypeId:=Th++[9,54,3,211]
structure Qj (L:Option Nat)(B:Nat)(w w':Py):Prop where
 below:Below B w w'
 rest:∀(b:Nat) c (e:TypeId),w.heap[b]?=some (Qb c e)->e ∉ Tm->some b≠L->w'.heap[b]?=some (Qb c e)
section
variable {L:Option Nat}{B:Nat}{w a f:Py}
def Qj.of (b:PG w a)(c:B<=w.heap.size):Qj L B w a:=⟨b.mono c,λd _ _ h _ _=>(b.block d (gM h)).trans h⟩
def Qj.trans (h:Qj L B w a)(c:Qj L B a f):Qj L B w f:=⟨h.below.trans c.below,λx y b g d e=>c.rest x y b (h.rest x y b g d e) d e⟩
def Qj.up (h:Qj none B w a):Qj L B w a:=⟨h.below,λx y c b d _=>h.rest x y c b d Qh⟩
def Qj.j6 (h:Qv Th B w a):Qj L B w a:=⟨h.below,λx y c b d _=>h.rest x y c b (λh=>d (iB _ h))⟩
def Qj.down {c:Nat}(h:Qj (some c) B w a)(g:w.heap.size<=c):Qj none B w a:=⟨h.below,λx y b d e _=>h.rest x y b d e (λb=>by cases b;exact absurd (gM d) Pv)⟩
def Qj.kp (h:Qj L B w a)(i:∀b,L=some b->∃c,w.heap[b]?=some (Qb c 65)):Kp w a:=λb c j d e=>h.rest b c j d (by rcases e with rfl|rfl <;> decide) (λk=>by
 obtain⟨l,g⟩:=i b k.symm;exact Sj d g (by rcases e with rfl|rfl <;> decide) rfl)
def Kp.of (b:PG w a):Kp w a:=λc _ _ h _=>(b.block c (gM h)).trans h
def Qv.kp (h:Qv Th B w a):Kp w a:=λd e g b c=>h.rest d e g b (by rcases c with rfl|rfl <;> decide)
end
structure Qc (A:List Nat)(w:Py)(a:Ad)(d:Nd):Prop where
 at_:Rl (λ_=>True) w a
 tr:a.tr=d.2
 no:match d.1 with
  |some k=>∃pre post,A=pre++a.TB++post/\pre.length=k
  |none=>∀q ∈ a.TB,q ∉ A
def Qc.kp {b:List Nat}{e a:Py}{c:Ad}{d:Nd}(h:Qc b e c d)(f:Kp e a):Qc b a c d:=⟨Rl.kp f _ h.at_,h.tr,h.no⟩
def CK {n:List Nat}{q:Py}:∀(a:List Ad)(no:Option Nat)(i:Nat)(b:Ad),Sl (λ_=>True) q a->a[i]?=some b ->
  (match no with
   |some p=>∃c j,n=c++Ad.RQ a++j/\c.length=p
   |none=>∀k ∈ Ad.RQ a,k ∉ n)->∃m,(Xe no (Ad.kB a))[i]?=some m/\Qc n q b m
 |[],_,i,b,_,h,_=>by simp at h
 |l::a,no,0,b,e,h,f=>by
  simp at h;subst h;rw[Sl] at e;refine⟨(no,l.tr),by rw[Ad.kB,Xe];rfl,e.1,rfl,?_⟩
  cases no with
  |none=>exact λk o=>f k (by rw[Ad.RQ];exact iB _ o)
  |some p=>
   obtain⟨c,j,g,d⟩:=f;exact⟨c,Ad.RQ a++j,by rw[g,Ad.RQ];simp,d⟩
 |l::a,no,i+1,b,e,h,f=>by
  rw[Sl] at e;obtain⟨m,g,d⟩:=CK a (no.map (· + l.tr.count)) i b e.2 (by simpa using h) (by
   cases no with
   |none=>exact λk o=>f k (by rw[Ad.RQ];exact jI _ o)
   |some p=>
    obtain⟨c,j,g,d⟩:=f;exact⟨c++l.TB,j,by rw[g,Ad.RQ];simp,by rw[gg,d,Ad.sA,Ad.VU]⟩)
  exact⟨m,by rw[Ad.kB,Xe];simpa using g,d⟩
def Qc.iK {e:List Nat}{l:Py}{a:Ad}{b:Nd}(h:Qc e l a b){c:Nat}{d:Ad}(m:a.ks[c]?=some d):∃i,(QA b)[c]?=some i/\Qc e l d i:=by
 obtain⟨j,f,g⟩:=h;obtain⟨no,v⟩:=b
 cases a with
 |mk s q w r k=>
  rw[Rl] at j;have p:v=.mk q w r (Ad.kB k):=by rw[Ad.tr] at f;exact f.symm
  subst p;refine CK k (no.map (· + 1)) c d j.2.2.2 m ?_
  cases no with
  |none=>exact λo n=>g o (by rw[Ad.TB];exact gO _ n)
  |some z=>
   obtain⟨u,t,n,o⟩:=g;exact⟨u++[s],t,by rw[n,Ad.TB];simp,by simp[o]⟩
def Ed:∀(no:Option Nat)(a:List Tr),(Xe no a).length=a.length
 |_,[]=>rfl
 |no,b::a=>by rw[Xe,g4,Ed,g4]
def Tz (a:Nd):(QA a).length=a.2.fS.length:=Ed _ _
def Qc.ks {c:List Nat}{d:Py}{a:Ad}{b:Nd}(h:Qc c d a b):a.ks.length=b.2.fS.length:=by
 rw[<-h.tr,a.Yb.2.2,gF]
def Yv:∀(no:Option Nat)(a:List Tr),(Xe no a).map (·.2)=a
 |_,[]=>rfl
 |no,b::a=>by rw[Xe,hv,Yv]
section
variable {f:List Nat}{c:Py}{a:Ad}{b:Nd}(h:Qc f c a b)
include f c a b h
def Qc.Ih {d:Nat}(k:d<b.2.fS.length):∃e,a.ks[d]?=some e/\(QA b)[d]?=some (Px b d)/\Qc f c e (Px b d):=by
 obtain⟨e,g⟩:∃e,a.ks[d]?=some e:=⟨_,gq (by rw[h.ks];exact k)⟩
 obtain⟨m,i,j⟩:=h.iK g;have l:Px b d=m:=by unfold Px;rw[hk,i];rfl
 rw[l];exact⟨e,g,i,j⟩
def Qc.cells:a.p<c.heap.size/\c.cell? (Pn a.p 0)=some (Ph b.2.kd)/\c.cell? (Pn a.p 1)=some (PI b.2.tx)/\c.cell? (Pn a.p 2)=some (Ph b.2.n) /\
  ∃d,c.cell? (Pn a.p 3)=some d/\qC (λ_=>True) c d (a.ks.map Ad.p):=by
 obtain⟨g,i,_⟩:=h;rw[<-i]
 cases a with
 |mk s p t r q=>
  rw[Rl] at g;obtain⟨_,o,⟨d,e,j⟩,_⟩:=g;obtain⟨k,l,m,n,_⟩:=gx e;rw[Ad.tr];exact⟨fR e,k,l,m,d,n,j⟩
end
def anL {f:Py}{i:PO}{c:List Nat}(h:qC (λ_=>True) f i c){b e:Nat}(g:c[b]?=some e):∃a d,i=.slice (some (Pn a 0)) c.length d/\a<f.heap.size/\f.cell? (Pn a b)=some (Pm e):=by
 have j:b<c.length:=(gs.1 g).1;obtain⟨a,d,rfl,_,_⟩:=h.1.form Pv;refine⟨a,d,rfl,(h.1.lt a rfl).2,?_⟩;rw[h.1.cellAt b Pv];simp[g]
def Qc.Zm {g:List Nat}{e:Py}{i:Ad}{b:Nd}(h:Qc g e i b){a:Nat}(o:a<b.2.fS.length) :
  ∃c d f,e.cell? (Pn i.p 3)=some (.slice (some (Pn d 0)) b.2.fS.length f)/\e.cell? (Pn d a)=some (Pm c.p)/\Qc g e c (Px b a)/\(QA b)[a]?=some (Px b a):=by
 obtain⟨c,k,p,l⟩:=h.Ih o;obtain⟨_,_,_,_,q,j,m⟩:=h.cells;obtain⟨d,f,rfl,_,n⟩:=anL m (b:=a) (e:=c.p) (by simp[k]);rw[gF,h.ks] at j;exact⟨c,d,f,j,n,l,p⟩
abbrev ma (a:Int×Int):List PO:=[Ph a.1,Ph a.2]
abbrev o2 (a:Ad×Fu):List PO:=[Pm a.1.p,Ph a.2.scope,PD a.2.f3]
structure Bs (w0:Py)(mb ag:Nat)(A:List Nat)(es:PO):Prop where
 sz:w0.heap.size=mb
 nm:w0.heap[ag]?=some (.map (XF (VZ A)) A.length)
 an:∀q ∈ A,Cl w0 q
 nd:A.Nodup
 es:w0.cell? (Pn 1 0)=some es
structure Mx (w0:Py)(mb ag:Nat)(A:List Nat)(aS aB aA aN:PO)(w:Py)(σ:St):Prop where
 bw:Below mb w0 w
 hh:QM mb (mR σ aS aB aA aN ag) w σ.M
 lg:w.ownsRow mb 9 1 aS σ.hF.length (σ.hF.map Value.string)
 se:w.ownsRow mb 54 2 aB σ.seen.length (σ.seen.flatMap ma)
 ow:w.ownsRow mb 3 1 aA σ.QL.length (σ.QL.map (Value.int .i64))
 fu:∃em:List Ad,em.length=σ.SE.length/\w.ownsRow mb 211 3 aN σ.SE.length ((em.zip σ.SE).flatMap o2)/\∀(i:Nat) a f,em[i]?=some a->σ.SE[i]?=some f->Qc A w a f.d
section
variable {q:Py}{d m:Nat}{p:List Nat}{I l j g i:PO}{w w':Py}{n:St}
section
variable (h:Mx q d m p l j g i w n)
include h
def Mx.lt:d<w.heap.size:=h.hh.lt
def Mx.fQ (a:PG w w'):Mx q d m p l j g i w' n:=GP
end
structure Td (B:Nat)(o f fX hn:PO)(w w':Py):Prop where
 below:Below B w w'
 rest:∀(b:Nat) c (e:TypeId),w.heap[b]?=some (Qb c e)->e ∉ Th->o.ownBlock≠some b->f.ownBlock≠some b->w'.heap[b]?=some (Qb c e)
 oo:∀k,fX.ownBlock=some k->o.ownBlock=some k\/w.heap.size<=k
 ff:∀k,hn.ownBlock=some k->f.ownBlock=some k\/w.heap.size<=k
def Td.trans {f:Nat}{D B u A C z:PO}{w E F:Py}(h:Td f D B u A w E)(e:Td f u A C z E F):Td f D B C z w F:=by
 refine⟨h.below.trans e.below,λc v a k t s r=>?_,λb o=>?_,λb o=>?_⟩
 ·refine e.rest c v a (h.rest c v a k t s r) t (λa=>?_) (λa=>?_)
  ·rcases h.oo c a with a|a
   ·exact s a
   ·exact absurd (gM k) Pv
  ·rcases h.ff c a with a|a
   ·exact r a
   ·exact absurd (gM k) Pv
 ·rcases e.oo b o with a|a
  ·exact h.oo b a
  ·exact .inr (gr h.below.size a)
 ·rcases e.ff b o with a|a
  ·exact h.ff b a
  ·exact .inr (gr h.below.size a)
def Td.of {B:Nat}{o f:PO}{w w':Py}(a:PG w w')(b:B<=w.heap.size):Td B o f o f w w':=⟨a.mono b,λc _ _ h _ _ _=>(a.block c (gM h)).trans h,λ_ h=>.inl h,λ_ h=>.inl h⟩
def Td.j6 {a:Nat}{c b:PO}{w w':Py}(h:Qv Th a w w'):Td a c b c b w w':=⟨h.below,λk o r e f _ _=>h.rest k o r e f,λ_ h=>.inl h,λ_ h=>.inl h⟩
def Td.jy {u v:PO}{L:Option Nat}(h:Td d g i u v w w')(f:Mx q d m p l j g i w n):Qj L d w w':=by
 obtain⟨z,_,k,_⟩:=f.fu;refine⟨h.below,λo r s b e _=>h.rest o r s b (λa=>e (iB _ a)) (λa=>?_) (λa=>?_)⟩
 ·obtain⟨t,c⟩:=QZ f.ow a;exact Sj b c (by rintro rfl;exact e PK) rfl
 ·obtain⟨t,c⟩:=QZ k a;exact Sj b c (by rintro rfl;exact e PK) rfl
def Td.kp {c e:PO}(h:Td d g i c e w w')(a:Mx q d m p l j g i w n):Kp w w':=(h.jy (L:=none) a).kp (λf b=>by cases b)
def Mx.heap (h:Mx q d m p l j g i w n){b:Mo}(e:QM d (mR n l j g i m) w' b)(a:Qv Th d w w'):Mx q d m p l j g i w' { n with M:=b }:=HU
end
def R1 (e g:Nat)(b:List (Nat×PO))(c:Nat)(W:Py)(j:W.heap[e]?=some (.map (XF b) g))(k:Cl W c)(l:∀a ∈ b,Cl W a.1) :
  (Instr.lookup 80 (.map (some e)) (Pm c) true).run prog W=.ok (.tuple #[((b.find? (λa=>decide (c=a.1))).map (·.2)).getD (Ph 0),PD (b.find? (λa=>decide (c=a.1))).isSome]) W:=An
def H3 (d:Nat):∀(c e:List Nat)(b:Nat),d ∉ c->(((c++d::e).zipIdx b).map λa=>(a.1,Value.int .i64 (a.2:Int))).find? (λa=>decide (d=a.1))=some (d,Ph ((b+c.length:Nat):Int))
 |[],e,b,_=>by simp
 |x::c,e,b,h=>by
  have f:d≠x:=λa=>h (by simp[a]);rw[hR,kE,hv,jq];simp only[hi f];rw[H3 d c e (b+1) (λa=>h (gO _ a)),g4,show b+1+c.length=b+(c.length+1) by omega]
def sM (a:Nd):Int:=match a.1 with
 |some b=>b
 |none=>0
def Qc.find {c:List Nat}{n:Py}{a:Ad}{d:Nd}(h:Qc c n a d)(g:c.Nodup) :
  (((VZ c).find? (λb=>decide (a.p=b.1))).map (·.2)).getD (Ph 0)=Ph (sM d)/\((VZ c).find? (λb=>decide (a.p=b.1))).isSome=d.1.isSome:=by
 obtain⟨_,_,f⟩:=h;obtain⟨no,o⟩:=d
 cases no with
 |none=>
  rw[D8 (f a.p (by rw[WS];simp))]
  exact⟨rfl,rfl⟩
 |some l=>
  obtain⟨e,m,rfl,i⟩:=f;have k:a.p ∉ e:=by
   rw[WS,hI,ja] at g;exact λj=>g.2.2 _ j _ Qh rfl
  have b:(VZ (e++a.TB++m)).find? (λb=>decide (a.p=b.1))=some (a.p,Ph (l:Int)):=by
   unfold VZ;rw[WS,hI,hR,H3 a.p e _ 0 k,h3,i]
  rw[b];exact⟨rfl,rfl⟩
section
variable {U:Py}{k g:Nat}{q:List Nat}{dc M L B s:PO}{w w':Py}{c:St}
def QM.f2 {H l:Nat}{R:List PO}{d:Mo}{a:List TypeId}(h:QM H R w d)(b:Qv a l w w')(n:84 ∉ a)(e:185 ∉ a)(i:207 ∉ a)(f:198 ∉ a)(j:262 ∉ a):QM H R w' d:=by
 obtain⟨o,r,p,m,h⟩:=h;exact⟨o,r,p,m,b.rest _ _ _ h.gG n,h.ob.f2 b e i,h.ro.f2 b f j⟩
def yA (a:Bs U k g q dc)(f:Below k U w){b:Ad}{d:Nd}(e:Qc q w b d) :
  (Instr.lookup 80 (.map (some g)) (Pm b.p) true).run prog w=.ok (.tuple #[Ph (sM d),PD d.1.isSome]) w:=by
 have l:w.heap[g]?=some (.map (XF (VZ q)) q.length):=(f.block g (by rw[<-a.sz];exact fR a.nm)).trans a.nm
 have j:=R1 g _ (VZ q) b.p w l e.at_.cl (λp m=>by
  obtain⟨n,o,i⟩:=a.an _ (Zf m);exact⟨n,o,(f.block _ (by rw[<-a.sz];exact fR i)).trans i⟩)
 rw[(e.find a.nd).1,(e.find a.nd).2] at j;exact j
def ZH (n:Bs U k g q dc)(f:Mx U k g q M L B s w c){e:Ad}{i:Nd}(p:Qc q w e i) :
  PN 51 #[Pm k,Pm e.p] w λo w'=>o=PY (Ph (own i))/\w'=w:=by
 have b:=yA n f.bw p;obtain⟨v,t⟩:=f.hh.at_ 5 _ rfl;have u:=f.lt;obtain⟨j,l⟩:=xE e.p;rw[<-l] at b ⊢;obtain⟨no,m⟩:=i;clear l
 cases no with
 |none=>
  have d:own (none,m) = -3:=rfl;exact H1
 |some a=>
  have d:own (some a,m)=(a:Int):=rfl;exact Eg
def Mx.t1 (h:Mx U k g q M L B s w c)(x:Int){b:Py}{a:PO}(m:w.grownBy b B.ownBlock)(r:b.ownsRow k 3 1 a (c.QL.length+1) (c.QL.map (Value.int .i64)++[Ph x]))(v:∀d,a.ownBlock=some d->B.ownBlock=some d\/w.heap.size<=d) :
  Mx U k g q M L a s (b.setCell (Pn k 8) a) { c with QL:=c.QL++[x] }/\Td k B s a s w (b.setCell (Pn k 8) a):=Ac
def Wo (w:Py)(e:Int)(H:Nat)(h:w.heap.size=H):∀a d,[Value.int .i64 e][a]?=some d->(w.alloc (.cells #[Ph e] 3)).cell? (((Pn H 0):Addr).add a)=some d:=by
 intro a d b;subst h
 cases a with
 |zero=>
  simp at b;subst b;simp[Addr.add]
 |succ a=>simp at b
def L1 (d:Int):∀a ∈ [Value.int .i64 d],a.oneCell'=true:=by
 intro a b;rw[gn.1 b];rfl
def q4:(prog.info? 3).map (λa=>(a.zero,a.size,a.bytes))=some (some (Ph 0),1,8):=by kernel_rfl
def m2 (b:Mx U k g q M L B s w c)(e d x:Int)(I:c.QL.length<=1000000000)(l:∀i R,QM k R i c.M->PN 105 #[Pm k,Ph e,Ph d] i λa w'=>a=PY (Ph (c.M.PL.length:Int))/\QM k R w' (c.M.scope e d)/\Qv Th k i w') :
  PN 50 #[Pm k,Ph e,Ph d,Ph x] w λa w'=>a=PY (Ph c.gu)/\∃f,Mx U k g q M L f s w' (c.gv e d x)/\Td k B s f s w w':=by
 have O{G}(h:G:=by
 show PN 50 #[Pm k,Ph e,Ph d,Ph x] w λa w'=>a=PY (Ph (c.M.PL.length:Int))/\∃f,Mx U k g q M L f s w' (c.gv e d x)/\Td k (.slice E m H) s f s w w'
 exact Eh):=Pq h;exact Km
abbrev QN (a:Pl)(b:Option Addr):PO:=.agg #[Ph a.scope,Ph a.gh,PD a.f3,.pointer b]
abbrev pj (a:Pl)(b:Option Addr):Obj:=Qb #[Ph a.scope,Ph a.gh,PD a.f3,.pointer b] 73
def f7 {w:Py}{a:Nat}{x y b:PO}{e:TypeId}(h:w.heap[a]?=some (Qb #[x,y,b] e)):w.cell? (Pn a 0)=some x/\w.cell? (Pn a 1)=some y/\w.cell? (Pn a 2)=some b/\(∀d,w.frozen? (Pn a d)=false)/\a<w.heap.size:=by
 refine⟨?_,?_,?_,λd=>?_,fR h⟩
 ·rw[cell_of h];rfl
 ·rw[cell_of h];rfl
 ·rw[cell_of h];rfl
 ·simp[World.frozen?,h]
def fV {w:Py}{a:Nat}{x y b e:PO}{f:TypeId}(h:w.heap[a]?=some (Qb #[x,y,b,e] f)):w.cell? (Pn a 0)=some x/\w.cell? (Pn a 1)=some y/\w.cell? (Pn a 2)=some b/\w.cell? (Pn a 3)=some e/\(∀d,w.frozen? (Pn a d)=false)/\a<w.heap.size:=by
 refine⟨?_,?_,?_,?_,λd=>?_,fR h⟩
 ·rw[cell_of h];rfl
 ·rw[cell_of h];rfl
 ·rw[cell_of h];rfl
 ·rw[cell_of h];rfl
 ·simp[World.frozen?,h]
def fZ {w b:Py}{a:Nat}{d:Obj}(e:PG w b)(h:w.heap[a]?=some d):b.heap[a]?=some d:=(e.block a (fR h)).trans h
def f8 {w:Py}{a:Nat}{d b:Obj}(h:w.heap[a]?=some d):(w.alloc b).heap[a]?=some d:=by rw[gy w b a (fR h)];exact h
def l9 {w:Py}{a:Nat}{x y b:PO}{d:TypeId}(h:w.heap[a]?=some (Qb #[x,y,b] d))(e l f:PO) :
  (((w.setCell (Pn a 0) e).setCell (Pn a 1) l).setCell (Pn a 2) f).heap[a]?=some (Qb #[e,l,f] d):=by
 have n{G}(h:G:=by
 exact m):=Pq h;exact rU
def Mx.ZR {e:List TypeId}(h:Mx U k g q M L B s w c)(d:Qv e k w w')(i:∀a ∈ e,a ∉ Tm/\a≠40/\a≠22):Mx U k g q M L B s w' c:=by
 have b:∀a,a ∈ Tm->a ∉ e:=λa f h=>(i a h).1 f;obtain⟨u,z,m,o⟩:=h.fu;exact⟨h.bw.trans d.below,h.hh.f2 d (b _ PK) (b _ PK) (b _ PK) (b _ PK) (b _ PK),Qa h.lg d (b _ PK),Qa h.se d (b _ PK),Qa h.ow d (b _ PK),u,z,Qa m d (b _ PK),λC n A p v=>(o C n A p v).kp (λr t a l f=>d.rest r t a l (λj=>by rcases f with rfl|rfl;exact(i _ j).2.1 rfl;exact(i _ j).2.2 rfl))⟩
def TL {a:Nat}{x y l:PO}{d:TypeId}(h:w.heap[a]?=some (Qb #[x,y,l] d))(b:k<=a)(e i m:PO):Qv [d] k w (((w.setCell (Pn a 0) e).setCell (Pn a 1) i).setCell (Pn a 2) m):=by
 have f:=hs w a 0 _ d e h;have j:=hs _ a 1 _ d i f;exact Qv.setCell (Qv.setCell (Qv.setCell (Qv.of RV (gr b (Qe (fR h)))) h Qh b _) f Qh b _) j Qh b _
def Td.new {j e f i:PO}{b:Py}{m:List TypeId}(h:Td k j e f i w w')(u:Qv m k w' b)(l:∀a,a<w.heap.size->b.heap[a]?=w'.heap[a]?):Td k j e f i w b:=
 ⟨h.below.trans u.below,λa r t d p o n=>by rw[l a (fR d)];exact h.rest a r t d p o n,h.oo,h.ff⟩
def U6 {a:Nat}(j:w.heap.size<=a)(e i f:PO)(b:Nat)(l:b<w.heap.size):(((w'.setCell (Pn a 0) e).setCell (Pn a 1) i).setCell (Pn a 2) f).heap[b]?=w'.heap[b]?:=by
 have d:b≠a:=Pv;rw[gY _ _ _ _ d,gY _ _ _ _ d,gY _ _ _ _ d]
def Mx.ND (h:Mx U k g q M L B s w c){e:Ad}{a:Fu}(T:Qc q w e a.d){f:Py}{b:PO}(N:w.grownBy f s.ownBlock){i:List Ad}(I:i.length=c.SE.length)(E:w.ownsRow k 211 3 s c.SE.length ((i.zip c.SE).flatMap o2))(S:∀(d:Nat) e a,i[d]?=some e->c.SE[d]?=some a->Qc q w e a.d)(P:f.ownsRow k 211 3 b (c.SE.length+1) ((i.zip c.SE).flatMap o2++o2 (e,a)))(R:∀r,b.ownBlock=some r->s.ownBlock=some r\/w.heap.size<=r) :
  Mx U k g q M L B b (f.setCell (Pn k 9) b) { c with SE:=c.SE++[a] }/\Td k B s B b w (f.setCell (Pn k 9) b):=by
 have F:Qv [211] k w f:=Qv.grown N (Qe h.lt) λX D=>by
  obtain⟨l,m⟩:=QZ E D;exact⟨(E.lt X D).1,l,211,m,by simp⟩
 have ae:=h.hh.f2 F PK PK PK PK PK;obtain⟨af,A⟩:=ae.cell 7 b;have o:Qv [211,84] k w (f.setCell (Pn k 9) b):=(F.mono PK Qq).trans (A.mono PK Qq);have H:Kp w (f.setCell (Pn k 9) b):=λp l n t v=>o.rest p l n t (by rcases v with rfl|rfl <;> decide);refine⟨⟨h.bw.trans o.below,af,Qa h.lg o PK,Qa h.se o PK,Qa h.ow o PK,i++[e],by simp[I],?_,λd ah C j u=>?_⟩,⟨o.below,λp l n t v _ u=>?_,λ_ h=>.inl h,R⟩⟩
 ·have m:=Qa P A PK
  show World.ownsRow _ _ _ _ _ (c.SE++[a]).length (((i++[e]).zip (c.SE++[a])).flatMap o2)
  rw[gg,List.zip_append I,iT];simpa using m
 ·rcases im d i.length with z|z
  ·rw[g6 z] at j;have m:(c.SE++[a])[d]?=some C:=u;rw[g6 Pv] at m;exact(S d ah C j m).kp H
  ·rw[g5 z] at j;have ad:=(gs.1 j).1;simp at ad;have O:d - i.length=0:=Pv;have m:(c.SE++[a])[d]?=some C:=u;rw[g5 Pv,show d - c.SE.length=0 by omega] at m;rw[O] at j;simp at j m;subst j m;exact T.kp H
 ·have m:f.heap[p]?=some (Qb l n):=(N.block p (gM t) (λn=>u n.symm)).trans t;exact A.rest p l n m (λr=>v (by rw[gn.1 r];decide))
def au1:(prog.info? 211).map (λa=>(a.zero,a.size,a.bytes))=some (some (.agg #[Rz,Ph 0,PD false]),3,24):=by kernel_rfl
def MB (w:Py)(H:Nat)(i:w.heap.size=H)(d:Nat)(e:Int)(b:Bool)(a:Nat)(f:PO)(h:([Pm d,Ph e,PD b]:List PO)[a]?=some f) :
  (w.alloc (.cells #[Pm d,Ph e,PD b] 211)).cell? (((Pn H 0):Addr).add a)=some f:=by
 subst i
 rcases a with _|_|_|a <;> simp at h
 all_goals subst h;simp[Addr.add]
def azi (e:Nat)(f:Int)(d:Bool):∀b ∈ ([Pm e,Ph f,PD d]:List PO),b.oneCell'=true:=by
 intro b a;simp at a
 rcases a with rfl|rfl|rfl <;> rfl
section
variable (bE:Mx U k g q M L B s w c){I:Ad}{al:Nd}(aQ:Qc q w I al)(af:al.2.fS.length=2)(ba:c.SE.length<=1000000000){K:Nat}(au:c.M.Small K)(d:K<=1000000000)(n E:Int)(F:Option Addr)(p:Bool)(bG:p=PU (Px al 1).2)
include bE I al aQ af ba K au d n E F p bG
def K9 :
  PN 60 #[Pm k,Pm I.p,.agg #[Ph n,Ph E,PD true,.pointer F]] w λj w'=>j=PY (vA (UU c.M.objs.length))/\∃bH,Mx U k g q M L B bH w' { c with SE:=c.SE++[⟨al,n,true⟩],M:=c.M.Qo (3+c.SE.length) }/\Td k B s B bH w w':=by
 have b{G}(h:G:=by
 obtain⟨o,A⟩:=xE ((w.alloc (.cells #[Ph n,Ph E,PD true,.pointer F] 73)).alloc (.cells #[Ph 0,Ph 0,QB] 65));have b{G}(h:G:=by
 have ay:o.heap[H]?=some (Qb #[Ph n,Ph E,PD true,.pointer F] 73):=by
  rw[A,bx];exact f8 (Pz _ _)
 have aE:o.heap[N]?=some (Qb #[Ph 0,Ph 0,QB] 65):=by
  rw[A,bq,show w.heap.size+1=(w.alloc (.cells #[Ph n,Ph E,PD true,.pointer F] 73)).heap.size by simp];exact Pz _ _
 have br:=Y (fV ay);have bQ:=Y aE;have cz:=Y A;have aH:=z;have b{G}(h:G:=by
 refine yM (G:=?GG) (λcp=>?ways) ?rest
 case ways=>
  refine UG 16 λa=>?_;refine Kr ?_;refine uh 5 (PD true) (a) ?_;refine um ?_;refine CF ?_;refine uh 13 (PD true) (a) ?_;refine uh 14 (.agg #[PZ u 0,Ph n,PD true]) (a) ?_;refine QX 15 λK d=>?_;go_simp;refine kS ?_;clear d K;refine VH 16 ?_;refine Ud ?_ _;go_simp;exact cp
 case rest=>
  clear ci p
  let p:Bool:=true
  exact Dl):=Pq h;exact EZ):=Pq h;exact zj):=Pq h;exact EM
def NN :
  PN 60 #[Pm k,Pm I.p,.agg #[Ph n,Ph E,PD false,.pointer F]] w λj w'=>j=PY (vA (UU c.M.objs.length))/\∃bH,Mx U k g q M L B bH w' { c with SE:=c.SE++[⟨al,n,p⟩],M:=c.M.Qo (3+c.SE.length) }/\Td k B s B bH w w':=by
 have b{G}(h:G:=by
 obtain⟨o,A⟩:=xE ((w.alloc (.cells #[Ph n,Ph E,PD false,.pointer F] 73)).alloc (.cells #[Ph 0,Ph 0,QB] 65));have b{G}(h:G:=by
 have ay:o.heap[H]?=some (Qb #[Ph n,Ph E,PD false,.pointer F] 73):=by
  rw[A,bx];exact f8 (Pz _ _)
 have aE:o.heap[N]?=some (Qb #[Ph 0,Ph 0,QB] 65):=by
  rw[A,bq,show w.heap.size+1=(w.alloc (.cells #[Ph n,Ph E,PD false,.pointer F] 73)).heap.size by simp];exact Pz _ _
 have br:=Y (fV ay);have bQ:=Y aE;have cz:=Y A;have aH:=z;have cp:=Y (PV z aY);have cr:=Y (PV z bD);have b{G}(h:G:=by
 refine yM (G:=?GG) (λcq=>?ways) ?rest
 case ways=>
  refine UG 16 λa=>?_;refine Kr ?_;refine uh 5 (PD false) (a) ?_;refine up 6 u 0 a ?_;refine up 7 u 0 a ?_;refine up 8 u 3 a ?_;refine uk 9 cp.out a ?_;refine up 10 da 1 a ?_;refine uk 11 cr.out a ?_;refine jZ 12 15 (λK d=>?ca) λK d=>?cb
  case' ca=>
   go_simp;refine cm (Pj ci _ (a)) ?_;rintro j r ⟨rfl,e⟩;rw[e];clear e r;refine d.out _ _ (λ_=>a) ?_;clear d K;refine uh 13 (PD p) (a) ?_ (aZ:=fU ⟨by kernel_rfl,λ_ _=>p.rec (by go_simp) (by go_simp)⟩);refine uh 14 (.agg #[PZ u 0,Ph n,PD p]) (a) ?_;refine QX 15 λK d=>?_;go_simp;refine d.out _ _ (λ_=>QK.drew) ?_;clear d K;refine VH 16 ?_;refine Ud ?_ _
  case' cb=>
   go_simp;refine d.out _ _ (λ_=>QK.drew) ?_;clear d K;refine QX 12 λK d=>?_;go_simp;refine cm (Pj ci _ (QK.drew)) ?_;rintro j r ⟨rfl,e⟩;rw[e];clear e r;refine d.out _ _ (λ_=>QK.drew) ?_;clear d K;refine uh 13 (PD p) (QK.drew) ?_ (aZ:=fU ⟨by kernel_rfl,λ_ _=>p.rec (by go_simp) (by go_simp)⟩);refine uh 14 (.agg #[PZ u 0,Ph n,PD p]) (QK.drew) ?_;refine VH 16 ?_;refine Ud ?_ _
  all_goals
   go_simp;exact cq
 case rest=>
  exact Dl):=Pq h;exact EZ):=Pq h;exact zj):=Pq h;exact EM
end
end
abbrev aP (a:Ad):PO:=Pm a.p
def Uk (c:Nat)(b:Py)(d:PO)(a:List Ad):Prop:=b.ownsRow c 22 1 d a.length (a.map aP)/\Sl (λ_=>True) b a
def Sl.of {c:Nat->Prop}{d:Py}:∀(a:List Ad),(∀b ∈ a,Rl c d b)->Sl c d a
 |[],_=>by rw[Sl];trivial
 |x::a,h=>by rw[Sl];exact⟨h x Qh,Sl.of a λb e=>h b (by simp[e])⟩
section
variable {a:Nat}{w w':Py}{c:PO}{b:List Ad}(h:Uk a w c b)
include a w w' c b h
def Uk.kp (d:Kp w w'):Uk a w' c b:=⟨j3 h.1 λ_ _ _ e=>d _ _ _ e (f4 rfl),Sl.kp d _ h.2⟩
def Uk.fQ (d:PG w w'):Uk a w' c b:=h.kp (Kp.of d)
end
section
variable {g:Nat}{d:Py}{e:PO}{a:List Ad}(h:Uk g d e a)
include g d e a h
def Uk.form:∃b c,e=.slice b a.length c:=P7 h.1
def Uk.cell (c:Nat)(i:c<a.length):∃b f,e=.slice (some (Pn b 0)) a.length f/\b<d.heap.size/\d.cell? (Pn b c)=some (Pm (a[c]).p)/\Rl (λ_=>True) d a[c]:=by
 obtain⟨b,f,rfl,_,_⟩:=h.1.form Pv;refine⟨b,f,rfl,(h.1.lt b rfl).2,?_,Sl.mem a h.2 _ (gU _)⟩;rw[h.1.cellAt c Pv];simp[i]
end
def Rl.row {c:Py}{a:Ad}(h:Rl (λ_=>True) c a):∃b,c.cell? (Pn a.p 3)=some b/\Uk 0 c b a.ks/\a.p<c.heap.size:=by
 cases a with
 |mk p m q o n=>
  rw[Rl] at h;obtain⟨_,j,⟨b,d,g⟩,f⟩:=h;obtain⟨k,l,_,i,_⟩:=gx d;refine⟨b,i,⟨?_,f⟩,fR d⟩;have e:=g.1;rw[gF,List.map_map] at e;exact e
def LG (I:Ad)(w:Py)(h:Rl (λ_=>True) w I):PN 120 #[Pm I.p] w λf c=>(∃a,f=PY a/\Uk 0 w a I.ks)/\c=w:=by
 obtain⟨a,d,T,e⟩:=Rl.row h;obtain⟨g,uc,rfl⟩:=T.form;obtain⟨i,b⟩:=xE I.p;rw[<-b] at d e ⊢;clear h b;go_enter func120,ntmps120;go_wp2;go_ret;exact⟨⟨_,rfl,T⟩,rfl⟩
def ZX (q:Nat)(n:Tr->Bool)(aQ:WU q)(L:∀b E W,UN W b E->PN q #[Pm E] W λd p=>d=PY (PD (n b))/\p=W)(g:Ad)(o:Py)(h:Rl (λ_=>True) o g)(ak:g.ks.length<=90000) :
  PN 129 #[Pm g.p,sX q] o λd p=>(∃F,d=PY F/\Uk o.heap.size p F (g.ks.filter λa=>n a.tr))/\PG o p:=by
 obtain⟨X,S,T,O,R⟩:=g2 io;have v:=LG g o h;have af:=Y L;clear h L
 generalize ae:g.ks=e at v ak
 obtain⟨E,I⟩:=xE g.p;rw[<-I] at v ⊢;clear ae I g;go_enter func129,ntmps129;go_wp2_with fail;refine cm v ?_;rintro d l ⟨⟨F,rfl,t⟩,rfl⟩;obtain⟨aR,aI,rfl⟩:=t.form;go_wp2_with fail
 go_loopw [5,11] (λb D wr=>∃(a:Nat)(i:List Ad),a<=e.length/\D=Ph a/\wr.ownsRow l.heap.size 22 1 b i.length (i.map aP)/\i=((e.take a).filter λa=>n a.tr)/\PG l wr) (λ_ D _=>e.length - (intOf D).toNat)
 case atStart=>exact⟨0,[],ge _,rfl,⟨rfl,fU ⟨rfl,rfl⟩⟩,rfl,RV⟩
 case round=>
  obtain⟨a,i,aD,rfl,N,A,c⟩:=hrel;have k:=N;have w:=Y A;obtain⟨aH,aJ,rfl⟩:=VG N;have aM:i.length<=a:=by
   rw[A];have:=hu (λa=>n a.tr) (e.take a);rw[hQ] at this;omega
  clear A
  by_cases H:a<e.length
  ·obtain⟨B,aL,s,ah,z,al⟩:=t.cell a H;have b{G}(h:G:=by
   obtain⟨f,u⟩:=xH ((e[a]).p);rw[<-u.out] at z;have aE:wr.cell? (Pn B a)=some (Pm f):=by rw[c.cell (p:=(Pn B a)) ah];exact z
   have aO:(a:Int)<(e.length:Int):=Pv;have P:=c.size;have j:=Pj af e[a].tr f wr (by rw[u.out];exact al.nat.nt.fQ c)
   have M:=Y (ha H);have aK:B<wr.heap.size:=Pv;have ad:=Y (Qm k);clear z
   cases m:n e[a].tr with
   |true=>
    rw[m] at j;have C:=Y m;clear m;have b{G}(h:G:=by
    have b{G}(h:G:=by
    go_roundw
    case rel=>
     refine⟨a+1,i++[e[a]],by omega,by go_num,?_,?_,U⟩
     ·rw[gg,hc];have h:=hown';rw[u.out] at h;exact h
     ·rw[M.out,lO,<-w.out];simp only[jP,C.out,k7,hq]
    case measure=>simp[intOf];omega):=Pq h;exact B0):=Pq h;exact mr
   |false=>
    rw[m] at j;have C:=Y m;clear m;have b{G}(h:G:=by
    go_wp2
    go_roundw
    case rel=>
     refine⟨a+1,i,by omega,by go_num,k,?_,c⟩;rw[M.out,lO,<-w.out];simp only[jP,C.out,k7,ic,ib,iX]
    case measure=>simp[intOf];omega):=Pq h;exact mr):=Pq h;exact Vt
  ·have f:a=e.length:=Pv;subst f;go_wp2;go_ret;have h:=Pj w;rw[gV] at h;subst h;exact⟨⟨_,rfl,k,Sl.of _ λx b=>Rl.fQ (Below.ht c) _ (Sl.mem _ t.2 x (ir.1 b).1)⟩,c⟩
section
variable (I:Ad)(w:Py)(h:Rl (λ_=>True) w I)(c:I.ks.length<=90000)
include I w h c
def YF :
  PN 59 #[Pm I.p] w λb d=>(∃a,b=PY a/\Uk w.heap.size d a (I.ks.filter λe=>Uw e.tr))/\PG w d:=by
 have e:=ZX 130 Uw HS Jw I w h c;clear h;go_enter func59,ntmps59;exact tj
def EW :
  PN 77 #[Pm I.p] w λb d=>(∃a,b=PY a/\Uk w.heap.size d a (I.ks.filter λe=>QE e.tr))/\PG w d:=by
 have e:=ZX 163 QE Im E0 I w h c;clear h;go_enter func77,ntmps77;exact tj
end
def kU (c:Int)(b:PS)(d:Va)(a:Mo):Mo:=if (a.gc c b 0 d).1=0 then (a.gc c b 0 d).2 else (a.write c b d).2
def zE (c:Int)(b:PS)(d:Va)(a:St):settle c b d a={ a with M:=kU c b d a.M }:=by
 unfold settle kU St.ho
 split <;> rfl
def A6:Vg 0=RI:=rfl
def xv {a:Int}(h:a≠0):Vg a=.iface 34 (Ph a):=by unfold Vg;rw[fT h]
def ard {a:Mo}(c:Int)(b:PS)(d:Va):(a.gc c b 0 d).1≠0->(a.gc c b 0 d).2=a:=by
 unfold Mo.gc
 split
 ·intro _;rfl
 ·split
  ·intro _;rfl
  ·split
   ·intro _;rfl
   ·intro h;exact absurd rfl h
def Mo.Go.kU {d:Mo}{e:Nat}(h:d.Go e)(b:Int)(a:PS)(c:Va):(Hp.kU b a c d).Go (e+1):=by
 unfold Hp.kU
 split
 ·exact h.gc b a 0 c
 ·exact h.write b a c
section
variable {k:Nat}{R:List PO}{w o:Py}{c:Mo}{n:Nat}
section
variable (h:QM k R w c)(au:c.Go n)(p:n<1000000000)(g:Int)(b:PS)(v:Va)
include h au p g b v
def anT (aD:(c.gc g b 0 v).1=0) :
  PN 270 #[Pm k,Ph g,PI b,vA v] w λj o=>j=PY (.tuple #[])/\QM k R o (kU g b v c)/\Qv Th k w o:=by
 have u{G}(h:G:=by
 have E:=h.fQ A;have s:=Y (λt (f:PG D t)=>Yn ((h.fQ A).fQ f) au.sm (Qe p) g b 0 v);clear h q;have z:kU g b v c=(c.gc g b 0 v).2:=by unfold kU;rw[fY aD]
 rw[z];rw[aD,A6] at s;have u{G}(h:G:=by
 refine uz 7 (PD false) ?_;refine Ud ?_ _;go_simp;go_wp2
 go_end0
 exact⟨rfl,B,M⟩):=Pq h;exact JV):=Pq h;exact Cv
def Wz (aD:(c.gc g b 0 v).1≠0) :
  PN 270 #[Pm k,Ph g,PI b,vA v] w λj o=>j=PY (.tuple #[])/\QM k R o (kU g b v c)/\Qv Th k w o:=by
 have u{G}(h:G:=by
 have ae:=Y q;have aW:=h.fQ A;have s:=Y (λt (f:PG D t)=>Yn ((h.fQ A).fQ f) au.sm (Qe p) g b 0 v);clear h q;have z:kU g b v c=(c.write g b v).2:=by unfold kU;rw[fT aD]
 rw[z];rw[xv aD,ard g b v aD] at s;obtain⟨aT,E⟩:=xE ((c.gc g b 0 v).1);rw[<-E] at s;clear E;have u{G}(h:G:=by
 have L:=Y (N.rest al _ 65 (fZ a ae.out) PK);refine uz 7 (PD true) ?_;refine Ud ?_ _;have ap:=Y (λt (f:PG aI t)=>uY (B.fQ f) au.sm (Qe p) g b v);have ay:=Y (f7 L.out);have ax:=B.lt;have aQ:=fR L.out;go_simp;go_wp2_with fail;refine UG 6 λa=>?_;refine iF ?_;refine uh 3 (Ph g) (a) ?_;refine uh 4 (PI b) (a) ?_;refine jY 5 ay.out a ?_;refine QX 6 λK d=>?_;go_simp;refine cm (Pj ap _ a) ?_;rintro j aR ⟨rfl,aH,aE⟩;refine ko d ?_;clear d K
 have ak:=M.trans ((Qv.of a (Qe ax)).trans aE);refine Ud ?_ _;go_simp;go_wp2
 go_end0
 exact⟨rfl,aH,ak⟩):=Pq h;exact JV):=Pq h;exact Cv
def VV :
  PN 270 #[Pm k,Ph g,PI b,vA v] w λd o=>d=PY (.tuple #[])/\QM k R o (kU g b v c)/\Qv Th k w o:=by
 by_cases a:(c.gc g b 0 v).1=0
 ·exact anT h au p g b v a
 ·exact Wz h au p g b v a
end
def Zo (d:Int)(b:List Tr)(c:Mo):Mo:=b.foldl (λc a=>(c.gc d a.tx (if a.kd=4 then 2 else 1) vU).2) c
def GW (b:List Tr)(d:Int):∀a:St,Q5 b d a={ a with M:=Zo d b a.M }:=by
 unfold Q5 Zo
 induction b with
 |nil=>intro a;rfl
 |cons f b e=>intro a;rw[kg,e];rfl
def akP (d:Int)(a:List Tr)(c:Mo)(b:Nat)(e:b<a.length):Zo d (a.take (b+1)) c=((Zo d (a.take b) c).gc d (a[b]).tx (if (a[b]).kd=4 then 2 else 1) vU).2:=by
 unfold Zo;rw[ha e,jj];rfl
def Mo.Go.lets (b:Int):∀(a:List Tr){c:Mo}{n:Nat},c.Go n->(Zo b a c).Go (n+a.length)
 |[],_,_,h=>h
 |d::a,c,n,h=>by
  have:=Mo.Go.lets b a (h.gc b d.tx (if d.kd=4 then 2 else 1) vU);rw[g4,show n+(a.length+1)=n+1+a.length by omega];exact this
def Ow (b:Tr->Bool)(a:List Ad):(a.filter λd=>b d.tr).map Ad.tr=(a.map Ad.tr).filter b:=by rw[lC];rfl
def MA (h:QM k R w c)(au:c.Go n){I:Ad}(ap:Rl (λ_=>True) w I)(af:I.ks.length<=90000)(aY:n+I.ks.length<1000000000)(g:Int) :
  PN 57 #[Pm k,Pm I.p,Ph g] w λj o=>j=PY (.tuple #[])/\QM k R o (Zo g (Qi I.tr) c)/\Qv Th k w o:=by
 have aT:=h.lt;have D:=EW I w ap af;obtain⟨e,A⟩:=xE (I.ks.filter λi=>QE i.tr);have ax:Qi I.tr=e.map Ad.tr:=by unfold Qi;rw[A,Ow,I.Yb.2.2]
 have aX:e.length<=I.ks.length:=by rw[A];exact hu _ _
 rw[<-A] at D;rw[ax];have a1:=h;obtain⟨bD,ak⟩:=xE I.p;rw[<-ak] at D ⊢;have bm:n+e.length<1000000000:=Pv;have bi:e.length<=90000:=Pv;clear h ap A ax ak aX aY af;go_enter func57,ntmps57;go_wp2_with fail;refine cm D ?_;rintro j a8 ⟨⟨bE,rfl,T⟩,ay⟩;obtain⟨bo,br,rfl⟩:=T.form;have aH:=a1.fQ ay;have a6:=aH.lt;go_wp2_with fail
 go_loopw [12] (λl wr=>∃i:Nat,i<=e.length/\l=Ph i/\QM k R wr (Zo g ((e.map Ad.tr).take i) c)/\Qv Th k a8 wr) (λl _=>e.length - (intOf l).toNat)
 case atStart=>exact⟨0,ge _,rfl,aH,Qv.of RV (Qe a6)⟩
 case round=>
  obtain⟨i,af,rfl,aI,b0⟩:=hrel;have B:=aI;have bf:=aI.lt
  by_cases M:i<e.length
  ·obtain⟨bx,bq,s,bz,aQ,aR⟩:=(T.kp (Qv.kp b0)).cell i M;have b{G}(h:G:=by
   have bv:(i:Int)<(e.length:Int):=Pv;obtain⟨aW,z,E,_⟩:=UN.cells aR.nat.nt;have aJ:i<(e.map Ad.tr).length:=by simpa using M
   have r:=Y (akP g (e.map Ad.tr) c i aJ);have L:(e.map Ad.tr)[i]=(e[i]).tr:=by simp
   rw[L] at r;obtain⟨al,ae⟩:=xE ((e[i]).p);obtain⟨q,N⟩:=xE ((e[i]).tr);rw[<-ae] at aQ aW z E;rw[<-N] at z E r;have F:(Zo g ((e.map Ad.tr).take i) c).Go (n+i):=by
    have:=Mo.Go.lets g ((e.map Ad.tr).take i) au;rw[hQ,gF,lM af] at this;exact this
   obtain⟨bn,H⟩:=xE (Zo g ((e.map Ad.tr).take i) c);rw[<-H] at B r F;have aK:n+i<1000000000:=Pv;have bU:=Y E;clear L ae N H aJ
   by_cases u:q.kd=4
   ·rw[fY u] at r;have aE:q.kd=4:=u;rw[aE] at z;clear u aE;go_wp2_with fail;have C:=Y (λt (f:PG wr t)=>Yn (B.fQ f) F.sm (Qe aK) g q.tx 2 vU);obtain⟨a7,p⟩:=xE q.tx;rw[<-p] at C bU;have aO:=Y p;clear p;refine UG 10 λa=>?_;refine iF ?_;refine uh 3 (Ph g) (a) ?_;refine sG ?_;refine uh 8 (Ph 2) (a) ?_;exact FJ
   ·rw[fT u] at r;obtain⟨bA,aE⟩:=xE q.kd;rw[<-aE] at z u;clear aE;go_wp2_with fail;have C:=Y (λt (f:PG wr t)=>Yn (B.fQ f) F.sm (Qe aK) g q.tx 1 vU);obtain⟨a7,p⟩:=xE q.tx;rw[<-p] at C bU;have aO:=Y p;clear p;refine UG 10 λa=>?_;refine iF ?_;refine uh 3 (Ph g) (a) ?_;refine sG ?_;refine uh 8 (Ph 1) (a) ?_;exact FJ):=Pq h;exact Vt
  ·have a:i=e.length:=Pv;subst a;go_wp2
   go_end0
   have h:=B;rw[show e.length=(e.map Ad.tr).length by simp,gV] at h;exact⟨rfl,h,(Qv.of ay (Qe aT)).trans b0⟩
end
structure Sz (N:Nat)(σ:St):Prop where
 go:σ.M.Go N
 ow:σ.QL.length<=N
 fn:σ.SE.length<=N
 lg:σ.hF.length<=N
 se:σ.seen.length<=N
 oe:σ.QL.length=σ.M.PL.length
def Sz.up {b N':Nat}{σ:St}(h:Sz b σ)(a:b<=N'):Sz N' σ:=⟨h.go.up a,gr h.ow a,gr h.fn a,gr h.lg a,gr h.se a,h.oe⟩
def Sz.heap {e b:Nat}{d:St}{c:Mo}(h:Sz e d)(a:e<=b)(f:c.Go b)(g:c.PL.length=d.M.PL.length):Sz b { d with M:=c }:=⟨f,gr h.ow a,gr h.fn a,gr h.lg a,gr h.se a,h.oe.trans g.symm⟩
def wB (a:Mo)(c:Int)(b:PS)(d:Va)(fx:Bool):(a.put c b d fx).2.PL.length=a.PL.length:=by
 unfold Mo.put
 repeat' split
 all_goals first|rfl|simp[Mo.Ux]
def Ws (a:Mo)(d:Int)(c:PS)(b:Int)(e:Va):(a.gc d c b e).2.PL.length=a.PL.length:=by
 unfold Mo.gc
 repeat' split
 all_goals first|rfl|simp[Mo.TJ]
def Zn (a:Mo)(c:Int)(b:PS)(d:Va):(a.write c b d).2.PL.length=a.PL.length:=by
 unfold Mo.write
 repeat' split
 all_goals first|rfl|exact wB _ _ _ _ _|simp[Mo.TJ]
def akQ (c:Int)(b:PS)(d:Va)(a:Mo):(kU c b d a).PL.length=a.PL.length:=by
 unfold kU
 split
 ·exact Ws _ _ _ _ _
 ·exact Zn _ _ _ _
def JX (c:Int):∀(a:List Tr)(b:Mo),(Zo c a b).PL.length=b.PL.length
 |[],_=>rfl
 |_::a,_=>(JX c a _).trans (Ws _ _ _ _ _)
section
variable {a:Nat}{b:St}(h:Sz a b)
include a b h
def Sz.settle (d:Int)(c:PS)(e:Va):Sz (a+1) (settle d c e b):=by
 rw[zE];exact h.heap (gw _) (h.go.kU d c e) (akQ _ _ _ _)
def Sz.gd (c:Nd)(d:Pl):Sz (a+1) (gd c d b).2:=
 ⟨h.go.Qo _,gR h.ow,by have:=h.fn;simp[Hp.gd];omega,gR h.lg,gR h.se,h.oe⟩
def Sz.gv (d c x:Int):Sz (a+1) (b.gv d c x):=
 ⟨h.go.scope _ _,by have:=h.ow;simp[St.gv];omega,gR h.fn,gR h.lg,gR h.se,by have:=h.oe;simp[St.gv,Mo.scope,this]⟩
def Sz.lets (c:List Tr)(s:Int):Sz (a+c.length) (Q5 c s b):=by
 rw[GW];exact h.heap Pv (h.go.lets s c) (JX _ _ _)
end
def U7 (a:List Nat)(b:Py):List Ad->List Nd->Prop
 |[],[]=>True
 |e::f,d::c=>Qc a b e d/\U7 a b f c
 |_,_=>False
def U7.of {f:List Nat}{j:Py}:∀(b:List Ad)(a:List Nd),b.length=a.length->(∀(c:Nat) d,b[c]?=some d->∃e,a[c]?=some e/\Qc f j d e)->U7 f j b a
 |[],[],_,_=>trivial
 |[],_::_,h,_=>by simp at h
 |_::_,[],h,_=>by simp at h
 |m::b,n::a,h,g=>by
  refine⟨?_,U7.of b a (by simpa using h) λc d l=>by simpa using g (c+1) d (by simpa using l)⟩;obtain⟨e,i,k⟩:=g 0 m rfl;simp at i;subst i;exact k
def Qc.l8 {a:List Nat}{d:Py}{b:Ad}{c:Nd}(h:Qc a d b c):U7 a d b.ks (QA c):=U7.of _ _ (by rw[h.ks,Tz]) λ_ _ e=>h.iK e
def U7.filter {e:List Nat}{f:Py}(c:Tr->Bool):∀(b:List Ad)(a:List Nd),U7 e f b a->U7 e f (b.filter λd=>c d.tr) (a.filter λd=>c d.2)
 |[],[],_=>trivial
 |[],_::_,h=>h.elim
 |_::_,[],h=>h.elim
 |i::b,g::a,h=>by
  rw[jP,jP,h.1.tr]
  split
  ·exact⟨h.1,U7.filter c b a h.2⟩
  ·exact U7.filter c b a h.2
def U7.get {f:List Nat}{g:Py}:∀(c:List Ad)(b:List Nd),U7 f g c b->∀(a:Nat)(e:a<c.length)(d:a<b.length),Qc f g c[a] b[a]
 |[],_,_,a,e,_=>by simp at e
 |_::_,[],_,a,_,d=>by simp at d
 |_::_,_::_,h,0,_,_=>h.1
 |_::c,_::b,h,a+1,e,d=>U7.get c b h.2 a (by simpa using e) (by simpa using d)
def U7.len {c:List Nat}{d:Py}:∀(b:List Ad)(a:List Nd),U7 c d b a->b.length=a.length
 |[],[],_=>rfl
 |[],_::_,h=>h.elim
 |_::_,[],h=>h.elim
 |_::b,_::a,h=>by rw[g4,g4,U7.len b a h.2]
def U7.kp {d:List Nat}{f c:Py}(e:Kp f c):∀(b:List Ad)(a:List Nd),U7 d f b a->U7 d c b a
 |[],[],_=>trivial
 |[],_::_,h=>h.elim
 |_::_,[],h=>h.elim
 |_::b,_::a,h=>⟨h.1.kp e,U7.kp e b a h.2⟩
def YW (c:Pl)(d:List Nd)(a:St):St:=d.foldl (λa b=>settle c.scope b.2.tx (gd b c a).1 (gd b c a).2) a
def Lk (c:Pl)(a:List Nd)(d:St)(b:Nat)(e:b<a.length):YW c (a.take (b+1)) d=settle c.scope (a[b]).2.tx (gd a[b] c (YW c (a.take b) d)).1 (gd a[b] c (YW c (a.take b) d)).2:=by
 unfold YW;rw[ha e,jj];rfl
def Sz.YW (c:Pl):∀(a:List Nd){d:St}{b:Nat},Sz b d->Sz (b+2 * a.length) (YW c a d)
 |[],_,_,h=>h
 |e::a,d,b,h=>by
  have:=Sz.YW c a ((h.gd e c).settle c.scope e.2.tx (Hp.gd e c d).1);rw[g4,show b+2 * (a.length+1)=b+1+1+2 * a.length by omega];exact this
section
variable {R:Py}{e N:Nat}{p:List Nat}{A M L g D:PO}{w w':Py}{f:St}{r:Nat}
section
variable (a:Mx R e N p M L g D w f)
include a
def qz {m:Ad}{b:Nd}(o:Qc p w m b)(k:b.2.fS.length=2)(d:Sz r f)(j:r<1000000000)(c:Pl)(i:Option Addr) :
  PN 60 #[Pm e,Pm m.p,QN c i] w λt w'=>t=PY (vA (gd b c f).1)/\∃l,Mx R e N p M L g l w' (gd b c f).2/\Td e g D g l w w':=by
 obtain⟨s,n,u⟩:=c;have q:f.SE.length<=1000000000:=Qe (m9 d.fn j)
 cases u with
 |true=>
  have h:=K9 a o k q d.go.sm (Qe j) s n i _ rfl;unfold gd;rw[ij];exact h
 |false=>
  have h:=NN a o k q d.go.sm (Qe j) s n i _ rfl;unfold gd;rw[hL];exact h
def C4 (k:Sz r f)(m:r<1000000000)(c:Int)(b:PS)(d:Va) :
  PN 270 #[Pm e,Ph c,PI b,vA d] w λj w'=>j=PY (.tuple #[])/\Mx R e N p M L g D w' (settle c b d f)/\Qv Th e w w':=by
 refine(VV a.hh k.go m c b d).mono ?_;rintro j w' ⟨rfl,l,i⟩;rw[zE];exact⟨rfl,a.heap l i,i⟩
def rA (m:Sz r f){j:Ad}{b:Nd}(c:Qc p w j b)(l:b.2.fS.length<=90000)(o:r+b.2.fS.length<1000000000)(d:Int) :
  PN 57 #[Pm e,Pm j.p,Ph d] w λk w'=>k=PY (.tuple #[])/\Mx R e N p M L g D w' (Q5 (Qi b.2) d f)/\Qv Th e w w':=by
 have h:=MA a.hh m.go c.at_ (by rw[c.ks];exact l) (by rw[c.ks];exact o) d
 rw[c.tr] at h;refine h.mono ?_;rintro k w' ⟨rfl,n,i⟩;rw[GW];exact⟨rfl,a.heap n i,i⟩
end
def WH {b a:Nat}{i:Array PO}{d:TypeId}(h:w.heap[b]?=some (Qb i d))(c:e<=b)(x:PO):Qv [d] e w (w.setCell (Pn b a) x):=
 Qv.setCell (Qv.of RV (gr c (Qe (fR h)))) h Qh c _
def tN {b c:Nat}(d:w.heap.size<=b)(x:PO)(a:Nat)(i:a<w.heap.size):(w'.setCell (Pn b c) x).heap[a]?=w'.heap[a]?:=gY _ _ _ _ (show a≠b by omega)
def Qc.gG {I:Ad}{b:Nd}(h:Qc p w I b):∃a,w.heap[I.p]?=some (Qb a 40):=by
 have ah:=h.at_;exact wq
section
variable {k l:PO}(h:Td e g D k l w w')(i:Mx R e N p M L g D w f)
include k l h i
def Td.YV {a d:Nat}{j:PO}(n:w.cell? (Pn a d)=some j)(b:∃c,w.heap[a]?=some (Qb c 40)):w'.cell? (Pn a d)=some j:=by
 obtain⟨c,b⟩:=b;have m:w'.heap[a]?=w.heap[a]?:=(h.kp i a c 40 b (fU rfl)).trans b.symm;exact(gN (w:=w) (a:=(Pn a d)) m).trans n
def Td.f2 {b:Nat}{c:Array PO}{a:TypeId}(d:w.heap[b]?=some (Qb c a))(j:a ∉ Tm):w'.heap[b]?=some (Qb c a):=(h.jy (L:=none) i).rest b c a d j Qh
end
def D5 (a7:Mx R e N p M L g D w f)(bA:Sz r f){I:Ad}{z:Nd}(ay:Qc p w I z)(aJ:z.2.fS.length<=90000)(bW:r+2 * z.2.fS.length<1000000000)(aL:∀a ∈ TK z,a.2.fS.length=2)(q:Pl)(n:Option Addr) :
  PN 199 #[Pm e,Pm I.p,QN q n] w λj w'=>j=PY (.tuple #[])/\∃U,Mx R e N p M L g U w' (UF z q f)/\Td e g D g U w w':=by
 have bE:=a7.lt;have b{G}(h:G:=by
 obtain⟨A,ap⟩:=xE (I.ks.filter λa=>Uw a.tr);obtain⟨o,hG⟩:=xE (TK z);have bS:A.length<=z.2.fS.length:=by rw[ap,<-ay.ks];exact hu _ _
 have bh:U7 p w A o:=by rw[ap,hG];exact U7.filter Uw _ _ ay.l8
 have bn:=U7.len _ _ bh;have aQ:=YF I w2 (Rl.kp (Kp.of aI) _ ay.at_) (by rw[ay.ks];exact aJ)
 rw[<-ap] at aQ;have ba:∀q,UF z q f=YW q o f:=λq=>by rw[hG];rfl
 rw[ba];rw[<-hG] at aL;obtain⟨cA,a8⟩:=xE I.p;rw[<-a8] at aQ ⊢;have bK:=a7.fQ aI;have bz:=U7.kp (Kp.of aI) _ _ bh;have bF:=Y E;have bY:=Y aL;have ci:r+2 * A.length<1000000000:=Pv;have cg:A.length<=90000:=Pv;have br:=Y bn;clear aJ bW aL ap hG bS ba a8 E bn;go_enter func199,ntmps199;go_wp2_with fail;rw[<-a1.out,<-aO];clear aO;refine cm aQ ?_;rintro j b7 ⟨⟨cB,rfl,T⟩,al⟩;obtain⟨cp,cw,rfl⟩:=T.form;have bQ:=aI.trans (al.mono aI.size);have ae:=bK.fQ al
 have b5:=U7.kp (Kp.of al) _ _ bz;have bU:=Y (fZ al bF.out);have b2:=ae.lt;go_wp2_with fail
 go_loopw [11] (λl wr=>∃(a:Nat)(U:PO),a<=A.length/\l=Ph a/\Mx R e N p M L g U wr (YW ⟨c,B,C⟩ (o.take a) f)/\Td e g D g U b7 wr) (λl _=>A.length - (intOf l).toNat)
 case atStart=>exact⟨0,D,ge _,rfl,ae,Td.of RV (Qe b2)⟩
 case round=>
  obtain⟨a,b6,aJ,rfl,bm,b0⟩:=hrel;have F:=bm;have aE:=Y (b0.f2 ae bU.out PK);have b1:=bm.lt
  by_cases aK:a<A.length
  ·obtain⟨cy,cq,s,cz,bD,ck⟩:=(T.kp (b0.kp ae)).cell a aK;have b{G}(h:G:=by
   have cx:(a:Int)<(A.length:Int):=Pv;have aT:a<o.length:=by rw[<-br.out];exact aK
   have aX:=(U7.get _ _ b5 a aK aT).kp (b0.kp ae);obtain⟨bJ,_,X,_⟩:=aX.cells;have af:=Y (Lk ⟨c,B,C⟩ o f a aT);have aY:Sz (r+2 * a) (YW ⟨c,B,C⟩ (o.take a) f):=by
    have:=(Sz.YW ⟨c,B,C⟩ (o.take a) bA);rw[hQ,lM (Qe aT)] at this;exact this
   obtain⟨bH,bi⟩:=xE (YW ⟨c,B,C⟩ (o.take a) f);rw[<-bi] at F af aY;have a6:=Pj bY o[a] (gU _);have ax:=Y (λt (k:PG wr t)=>qz (F.fQ k) (aX.kp (Kp.of k)) a6 aY Pv ⟨c,B,C⟩ n);obtain⟨u,bf⟩:=xE ((A[a]).p);obtain⟨aU,bq⟩:=xE (o[a]);have aH:=aX.gG;rw[<-bf] at bD bJ X ax aH;rw[<-bq] at X af ax;have b8:=aY.gd aU ⟨c,B,C⟩;obtain⟨bP,bo⟩:=xE ((gd aU ⟨c,B,C⟩ bH).1);obtain⟨ak,bb⟩:=xE aU.2.tx;rw[<-bo] at ax af;rw[<-bb] at X af
   have ce:r+2 * a+1<1000000000:=Pv;have cr:=fR aE.out;have be:=Y X;have bx:Hid (∃m,wr.heap[u]?=some (Qb m 40)):=aH;clear aH bi a6 bf bq bo bb X;go_wp2_with fail;have i:(λt=>t.heap[H]?=some (pj ⟨c,B,C⟩ n)/\t.cell? (Pn u 1)=some (PI ak)) wr.drew:=⟨aE.out,be.out⟩;refine Qd 11 (λt=>t.heap[H]?=some (pj ⟨c,B,C⟩ n)/\t.cell? (Pn u 1)=some (PI ak)) Qz ?_;refine up 0 e 0 i ?_;refine up 1 H 0 i ?_
   refine uc 2 (Ph c) rfl (fU ⟨by kernel_rfl,λt k=>by have aD:=(fV k.1).1;go_simp⟩) (i) ?_
   refine up 3 u 0 i ?_;refine up 4 u 0 i ?_;refine up 5 u 1 i ?_;refine uc 6 (PI ak) rfl (fU ⟨by kernel_rfl,λt k=>by have aD:=k.2;go_simp⟩) (i) ?_
   refine up 7 e 0 i ?_;refine up 8 u 0 i ?_;refine uc 9 (.agg #[Ph c,Ph B,PD C,.pointer n]) rfl (fU ⟨by kernel_rfl,λt k=>by have aD:=(fV k.1).1;have ah:=(fV k.1).2.1;have aL:=(fV k.1).2.2.1;have cj:=(fV k.1).2.2.2.1;go_simp⟩) (i) ?_
   refine QX 10 λK d=>?_;go_simp;refine cm (Pj ax _ RV.drew) ?_;rintro j aR ⟨rfl,bR,bL,bI⟩;have aW:Td e g b6 g bR wr aR:=(Td.of RV.drew (Qe b1)).trans bI;have bv:aR.heap[H]?=some (pj ⟨c,B,C⟩ n)/\aR.cell? (Pn u 1)=some (PI ak):=⟨aW.f2 F aE.out PK,aW.YV F be.out bx.out⟩;refine d.out _ _ (λ_=>bv) ?_;clear d K;have bG:=b0.trans aW;refine QX 11 λK d=>?_;go_simp;refine cm (C4 bL b8 ce c ak bP) ?_;rintro j cn ⟨rfl,bX,bZ⟩;refine ko d ?_;clear d K
   have bN:=bG.trans (Td.j6 bZ);clear bv i;refine Ud ?_ _;go_simp;go_wp2
   go_roundw
   case rel=>
    refine⟨a+1,_,by omega,by go_num,?_,bN⟩;rw[af.out];exact bX
   case measure=>simp[intOf];omega):=Pq h;exact Vt
  ·have d:a=A.length:=Pv;subst d;go_wp2
   go_end0
   rw[br.out,gV] at F;exact⟨rfl,_,F,(Td.of bQ (Qe bE)).trans b0⟩):=Pq h;exact mQ
end
section
variable {w:Py}{a:Nat}{x y c g:PO}{d:TypeId}(h:w.heap[a]?=some (Qb #[x,y,c,g] d))
include w a x y c g d h
def lY (e l f b:PO) :
  ((((w.setCell (Pn a 0) e).setCell (Pn a 1) l).setCell (Pn a 2) f).setCell (Pn a 3) b).heap[a]?=some (Qb #[e,l,f,b] d):=by
 have n{G}(h:G:=by
 have i:=hs _ a 3 _ d b m;exact i):=Pq h;exact rU
def ZI (b:PO) :
  (w.setCell (Pn a 0) b).heap[a]?=some (Qb #[b,y,c,g] d):=hs w a 0 _ d b h
end
section
variable {U:Py}{k aR:Nat}{F:List Nat}{dK bv br M E:PO}{w B:Py}{p:St}{bm:Nat}
def U8 {a:Nat}{x y c i:PO}{d:TypeId}(h:w.heap[a]?=some (Qb #[x,y,c,i] d))(b:k<=a)(e l f g:PO):Qv [d] k w ((((w.setCell (Pn a 0) e).setCell (Pn a 1) l).setCell (Pn a 2) f).setCell (Pn a 3) g):=by
 have n{G}(h:G:=by
 exact Qv.setCell (Qv.setCell (Qv.setCell (Qv.setCell (Qv.of RV (gr b (Qe (fR h)))) h Qh b _) r Qh b _) o Qh b _) m Qh b _):=Pq h;exact rU
def VJ {a:Nat}(i:w.heap.size<=a)(d g f e:PO)(c:Nat)(j:c<w.heap.size):((((B.setCell (Pn a 0) d).setCell (Pn a 1) g).setCell (Pn a 2) f).setCell (Pn a 3) e).heap[c]?=B.heap[c]?:=by
 have b:c≠a:=Pv;rw[gY _ _ _ _ b,gY _ _ _ _ b,gY _ _ _ _ b,gY _ _ _ _ b]
def SL (a:Tr):a.fS.length<a.count:=by
 cases a with
 |mk d f e c=>
  rw[f9];have h:∀b:List Tr,b.length<=Tr.f5 b:=by
   intro b
   induction b with
   |nil=>simp
   |cons a b g=>
    rw[PW,g4];have:1<=a.count:=by cases a with|mk d f e c=>rw[f9];omega
    omega
  have:=h c
  show c.length<_
  omega
def pq (g:Mx U k aR F bv br M E w p)(d:Sz bm p)(e:bm<1000000000)(a b x:Int)(f:(p.M.ro a).isSome=true) :
  PN 50 #[Pm k,Ph a,Ph b,Ph x] w λj B=>j=PY (Ph p.gu)/\∃c,Mx U k aR F bv br c E B (p.gv a b x)/\Td k M E c E w B:=
 m2 g a b x (Qe (m9 d.ow e)) λ_ _ i=>VC i d.go.sm (Qe e) a b f
def auX (cP:Bs U k aR F dK)(b2:Mx U k aR F bv br M E w p)(cL:Sz bm p){I:Ad}{c:Nd}(aQ:Qc F w I c)(dQ:c.2.count<=1500)(dV:bm+10000<1000000000)(aL:∀i ∈ TK c,i.2.fS.length=2)(aO:Pl)(n:Option Addr)(dj:(p.M.ro aO.scope).isSome=true) :
  PN 110 #[Pm k,Pm I.p,QN aO n] w λj B=>j=PY (QN (QD c aO p).1 n)/\∃bX bY,Mx U k aR F bv br bX bY B (QD c aO p).2/\Td k M E bX bY w B:=by
 have b5:=b2.lt;obtain⟨r,e,g⟩:=aO;obtain⟨o,A⟩:=xE ((w.alloc (.cells #[Ph r,Ph e,PD g,.pointer n] 73)).alloc (.cells #[Ph 0,Ph 0,PD false,Rz] 73));have b{G}(h:G:=by
 have bZ:o.heap[H]?=some (Qb #[Ph r,Ph e,PD g,.pointer n] 73):=by rw[A,bx];exact f8 (Pz _ _)
 have cq:o.heap[N]?=some (Qb #[Ph 0,Ph 0,PD false,Rz] 73):=by
  rw[A,bq,show w.heap.size+1=(w.alloc (.cells #[Ph r,Ph e,PD g,.pointer n] 73)).heap.size by simp];exact Pz _ _
 have b{G}(h:G:=by
 have dS:=SL c.2;have dc:UN o c.2 I.p:=by rw[<-aQ.tr];exact(Rl.kp (Kp.of z) _ aQ.at_).nat.nt
 have cE:=Yg c.2 I.p false o dc Pv;have ci:=b2.fQ z;have dr:=aQ.kp (Kp.of z);have bD:=Y bZ;have b6:=Y cq;have cz:=Y A;have aY:=Y bI;have bE:=Y cJ;have bL:=Y bK;have ce:=cL;have cH:=cP;have df:=Y aL;obtain⟨al,bA⟩:=xE I.p;rw[<-bA] at cE ⊢;have aW:=Y bA;clear bZ cq A cJ bI bK aL bA
 by_cases ap:(gp c.2 false).length=0
 ·have ak:QD c ⟨r,e,g⟩ p=(⟨r,e,g⟩,p):=by unfold QD;rw[fY ap]
  rw[ak];clear ak;have b{G}(h:G:=by
  rw[ap];have C:=ci.fQ u;have aI:=Y (fZ u b6.out);have bU:=Td.of (o:=M) (f:=E) (z.trans (u.mono z.size)) (Qe b5);obtain⟨b1,cy,b8,b7,a6,dC⟩:=fV (fZ u bD.out);obtain⟨db,cQ,cS,dd,s,dD⟩:=fV aI.out;have cU:=s 0;have c8:=s 1;have da:=s 2;have dh:=s 3;have cT:H≠N:=Pj bL;clear s a6 ap;go_wp2_with fail;obtain⟨cR,ay⟩:=xE ((((a1.setCell (Pn N 0) (Ph r)).setCell (Pn N 1) (Ph e)).setCell (Pn N 2) (PD g)).setCell (Pn N 3) (.pointer n));rw[<-ay]
  have aK:=lY aI.out (Ph r) (Ph e) (PD g) (.pointer n);have bF:k<=N:=by have:=Pj aY;omega
  have aJ:=U8 aI.out bF (Ph r) (Ph e) (PD g) (.pointer n);have aH:=bU.new aJ (VJ aY.out _ _ _ _);have aE:=C.ZR aJ PK;rw[<-ay] at aK aH aE;obtain⟨bf,bh,be,bi,_,_⟩:=fV aK;exact XE (v:=QN ⟨r,e,g⟩ n) ⟨rfl,_,_,aE,aH⟩):=Pq h;exact FZ
 ·obtain⟨q,bR⟩:=xE (p.gu:Int);have ak:QD c ⟨r,e,g⟩ p=(⟨q,e,g⟩,UF c ⟨q,e,g⟩ (Q5 (Qi c.2) q (p.gv r (-1) (own c)))):=by unfold QD;rw[fT ap,bR]
  rw[ak];clear ak;obtain⟨dt,cj⟩:=xE ((gp c.2 false).length);have dv:=Y cj;have dX:¬ (dt:Int)=0:=Pv;clear cj ap;obtain⟨cx,bz⟩:=xE (own c:Int);rw[<-bz];have b{G}(h:G:=by
  rw[<-dv.out];have C:=ci.fQ u;have aI:=Y (fZ u b6.out);have cp:=Y (fZ u bD.out);have bo:=Y (fV (fZ u bD.out));have bS:=dr.kp (Kp.of u);have bU:=Td.of (o:=M) (f:=E) (z.trans (u.mono z.size)) (Qe b5);have bQ:=Y (λt (f:PG a1 t)=>ZH cH (C.fQ f) (bS.kp (Kp.of f)));rw[<-aW.out,<-bz] at bQ;have bN:=Y (λt (f:PG a1 t)=>pq (C.fQ f) ce Pv r (-1) cx dj);rw[<-bR] at bN;have dp:=C.lt;have dT:=fR cp.out
  have dY:al<a1.heap.size:=by rw[aW.out];exact bS.cells.1
  clear bz bR;go_wp2_with fail;have b{G}(h:G:=by
  have af:=(Td.of a (Qe dp)).trans a8;have L:=Y (af.f2 C cp.out PK);have bn:=Y (af.f2 C aI.out PK);have cZ:=bS.kp (af.kp C);have bH:=bU.trans af;obtain⟨b1,cy,b8,b7,a6,dC⟩:=fV L.out;have b{G}(h:G:=by
  have D:=bP.ZR ax PK;have ae:=ZI L.out (Ph q);have de:Hid (aX.heap[N]?=some (Qb #[Ph 0,Ph 0,PD false,Rz] 73)):=tg
  have b{G}(h:G:=by
  have cB:=ce.gv r (-1) cx;have cK:=cB;have cg:=rA D cB a7 Pv Pv q;rw[<-aW.out] at cg;obtain⟨dg,dm,s2,dz,_,dM⟩:=fV ae;have dU:=D.lt;clear aT ae b1 cy b8 b7 cC;go_wp2_with fail;refine cm cg ?_;rintro j dR ⟨rfl,cw,X⟩;have bW:=cw;have cr:=Y (X.rest H _ 73 cY.out PK);have cV:=Y (X.rest N _ 73 de.out PK);have du:=a7.kp (Qv.kp X);have cM:=cn.trans (Td.j6 X);have dH:=cK.lets (Qi c.2) q;have di:=TI c.2;have ck:=D5 cw dH du Pv Pv df.out ⟨q,e,g⟩ n
  rw[<-aW.out] at ck;obtain⟨dE,dq,dF,dG,_,dO⟩:=fV cr.out;clear di dg dm s2 dz;go_wp2_with fail;refine cm ck ?_;rintro j cG ⟨rfl,dN,dx,bJ⟩;have bG:=Y (bJ.f2 bW cV.out PK);have ds:=cM.trans bJ;obtain⟨u0,u1,u2,u3,_,dP⟩:=fV (bJ.f2 bW cr.out PK);obtain⟨db,cQ,cS,dd,s,dD⟩:=fV bG.out;have cU:=s 0;have c8:=s 1;have da:=s 2;have dh:=s 3;have cT:H≠N:=Pj bL;clear dE dq dF dG s;go_wp2_with fail
  obtain⟨cR,ay⟩:=xE ((((cG.setCell (Pn N 0) (Ph q)).setCell (Pn N 1) (Ph e)).setCell (Pn N 2) (PD g)).setCell (Pn N 3) (.pointer n));rw[<-ay];have aK:=lY bG.out (Ph q) (Ph e) (PD g) (.pointer n);have bF:k<=N:=by have:=Pj aY;omega
  have aJ:=U8 bG.out bF (Ph q) (Ph e) (PD g) (.pointer n);have aH:=ds.new aJ (VJ aY.out _ _ _ _);have aE:=dx.ZR aJ PK;rw[<-ay] at aK aH aE;obtain⟨bf,bh,be,bi,_,_⟩:=fV aK;exact XE (v:=QN ⟨q,e,g⟩ n) ⟨rfl,_,_,aE,aH⟩):=Pq h;exact B5):=Pq h;exact x6):=Pq h;exact HF):=Pq h;exact FZ):=Pq h;exact oS):=Pq h;exact zj
end
section
variable {U:Py}{k M:Nat}{z:List Nat}{es bW bU bv bJ:PO}{w w':Py}{g:St}{bm:Nat}
def Sz.ho {bm:Nat}{g:St}(h:Sz bm g)(c:Int)(b:PS)(a:Int)(d:Va):Sz (bm+1) (g.ho c b a d):=h.heap (gw _) (h.go.gc c b a d) (Ws _ _ _ _ _)
def Sz.Ru {bm:Nat}{g:St}(h:Sz bm g)(b:Int)(a:PS)(c:Va)(fx:Bool):Sz (bm+1) (g.Ru b a c fx):=h.heap (gw _) (h.go.put b a c fx) (wB _ _ _ _ _)
section
variable (a:Mx U k M z bW bU bv bJ w g)(f:Sz bm g)(i:bm<1000000000)
include a f i
def Yt (d:Int)(c:PS)(b:Int)(e:Va) :
  PN 128 #[Pm k,Ph d,PI c,Ph b,vA e] w λl w'=>l=PY (Vg (g.M.gc d c b e).1)/\Mx U k M z bW bU bv bJ w' (g.ho d c b e)/\Qv Th k w w':=by
 refine(Yn a.hh f.go.sm (Qe i) d c b e).mono ?_;rintro l w' ⟨rfl,m,j⟩;exact⟨rfl,a.heap m j,j⟩
def Z4 (c:Int)(b:PS)(d:Va)(fx:Bool) :
  PN 56 #[Pm k,Ph c,PI b,vA d,PD fx] w λj w'=>j=PY (Vg (g.M.put c b d fx).1)/\Mx U k M z bW bU bv bJ w' (g.Ru c b d fx)/\Qv Th k w w':=by
 refine(TE a.hh f.go.sm (Qe i) c b d fx).mono ?_;rintro j w' ⟨rfl,l,e⟩;exact⟨rfl,a.heap l e,e⟩
def ve (b:Int) :
  PN 49 #[Pm k,Ph b] w λd w'=>d=PY (Ph g.M.objs.length)/\Mx U k M z bW bU bv bJ w' { g with M:=g.M.Qo b }/\Qv Th k w w':=by
 refine(uG a.hh f.go.sm (Qe i) b).mono ?_;rintro d w' ⟨rfl,e,c⟩;exact⟨rfl,a.heap e c,c⟩
end
def apV (dc:Bs U k M z es)(cx:Mx U k M z bW bU bv bJ w g)(bY:Sz bm g){I:Ad}{c:Nd}(aQ:Qc z w I c)(af:c.2.fS.length=2)(d3:bm+10000<1000000000)(aW:Pl)(n:Option Addr)(dF:(g.M.ro aW.scope).isSome=true) :
  PN 265 #[Pm k,Pm I.p,QN aW n] w λj w'=>j=PY (vA (Xz c aW g).1)/\∃cq cr,Mx U k M z bW bU cq cr w' (Xz c aW g).2/\Td k bv bJ cq cr w w':=by
 have de:=cx.lt;obtain⟨F,B,C⟩:=aW;obtain⟨w2,cz⟩:=xH ((w.alloc (.cells #[Ph F,Ph B,PD C,.pointer n] 73)).alloc (.cells #[Ph 0,Ph 0,QB] 65));have b{G}(h:G:=by
 have cH:w2.heap[N]?=some (Qb #[Ph 0,Ph 0,QB] 65):=sE
 have b{G}(h:G:=by
 obtain⟨da,_,cS,_⟩:=aQ.cells;obtain⟨dr,_,bh,_⟩:=(aQ.kp (Kp.of aI)).cells;have p:=cx.fQ aI;have bF:=aQ.kp (Kp.of aI);have dh:=Y E;have cB:=Y cH;have cE:=Td.of (o:=bv) (f:=bJ) aI (Qe de);have br:=Y bI;have bE:=Y cJ;have bL:=Y bK;obtain⟨al,ak⟩:=xH I.p;obtain⟨aY,ap⟩:=xE c.2.tx;rw[<-ak.out] at dr bh da cS ⊢;rw[<-ap] at bh cS;have dt:=Y bh;clear bh;have dj:=p.lt;have d4:=fR E;clear cH cJ bI bK
 by_cases aD:c.2.tx=PE
 ·obtain⟨v,s⟩:=xE ((gd c ⟨F,B,C⟩ g).1);obtain⟨ck,A⟩:=xE ((gd c ⟨F,B,C⟩ g).2);have aE:Xz c ⟨F,B,C⟩ g=(v,ck):=by unfold Xz;rw[fY aD,s,A]
  rw[aE];have a:=qz p bF af bY Pv ⟨F,B,C⟩ n;rw[<-s,<-A,<-ak.out] at a;have db:aY.toList.isEmpty=true:=by rw[ap,aD];decide +kernel
  obtain⟨bZ,ci,b2,b1,_,_⟩:=fV E;clear aE s A aD ap E;go_enter func265,ntmps265;go_wp2_with fail;refine iJ ?_;clear bx bq;refine cm a ?_;rintro j bb ⟨rfl,d,bP,a8⟩;have b5:=bP;have bn:=Y (a8.f2 p cB.out PK);have bH:=cE.trans a8;obtain⟨ds,dd,di,o,dR⟩:=f7 bn.out;have dm:=o 0;have dp:=o 1;have dq:=o 2;clear o;clear bZ ci b2 b1;go_wp2_with fail;obtain⟨dg,aH⟩:=xE (((bb.setCell (Pn N 0) (Ph v.k)).setCell (Pn N 1) (Ph v.n)).setCell (Pn N 2) (PI v.s));rw[<-aH]
  have aR:=l9 bn.out (Ph v.k) (Ph v.n) (PI v.s);have b7:k<=N:=by have:=Pj br;omega
  have aO:=TL bn.out b7 (Ph v.k) (Ph v.n) (PI v.s);have aK:=bH.new aO (U6 br.out _ _ _);have aJ:=b5.ZR aO PK;rw[<-aH] at aR aK aJ;obtain⟨bA,bf,bi,_,_⟩:=f7 aR;exact YJ (v:=vA v) ⟨rfl,_,_,aJ,aK⟩
 ·obtain⟨q,ce⟩:=xE (g.gu:Int);obtain⟨cg,bR⟩:=xE (own c:Int);obtain⟨cU,bS⟩:=xH (g.gv F (-1) cg);obtain⟨v,s⟩:=xE ((gd c ⟨q,B,C⟩ cU).1);obtain⟨ck,A⟩:=xE ((gd c ⟨q,B,C⟩ cU).2);have aE:Xz c ⟨F,B,C⟩ g=(v,ck.ho q aY 3 v):=by unfold Xz;rw[fT aD,s,A,bS.out,ce,bR,ap]
  rw[aE];have db:aY.toList.isEmpty=false:=by rw[FA,ap];exact hi aD
  have bo:=Y (fV E);have bQ:=Y (λt (f:PG w2 t)=>ZH dc (p.fQ f) (bF.kp (Kp.of f)));rw[<-ak.out,<-bR] at bQ;have bN:=Y (λt (f:PG w2 t)=>pq (p.fQ f) bY Pv F (-1) cg dF);rw[<-ce,<-bS.out] at bN;have cK:=Y A;have df:=Y s;clear aE bR ce aD ap A s E;go_enter func265,ntmps265;go_wp2_with fail;refine iJ ?_;clear bx bq;have b{G}(h:G:=by
  have bG:=(Td.of a (Qe dj)).trans a8;have b5:=bP;have L:=Y (bG.f2 p dh.out PK);have bn:=Y (bG.f2 p cB.out PK);have cZ:=bF.kp (bG.kp p);have bH:=cE.trans bG;obtain⟨bZ,ci,b2,b1,a6,d5⟩:=fV L.out;have b{G}(h:G:=by
  have D:=b5.ZR ax PK;have ae:=ZI L.out (Ph q);have dC:Hid (aX.heap[N]?=some (Qb #[Ph 0,Ph 0,QB] 65)):=tg
  have b{G}(h:G:=by
  have cj:=bY.gv F (-1) cg;rw[<-bS.out] at cj;have cT:=cj.gd c ⟨q,B,C⟩;rw[<-cK.out] at cT;have cG:=qz D a7 af cj Pv ⟨q,B,C⟩ n;rw[<-df.out,<-cK.out,<-ak.out] at cG;obtain⟨dD,dG,s2,dM,_,dZ⟩:=fV ae;have d2:=D.lt;clear aT ae bZ ci b2 b1 cC;go_wp2_with fail;refine cm cG ?_;rintro j be ⟨rfl,dX,cQ,bz⟩;have cL:=Y (bz.f2 D cY.out PK);have dz:=Y (bz.f2 D dC.out PK);have cR:=a7.kp (bz.kp D);have dx:=cn.trans bz;clear dD dG s2 dM;go_wp2_with fail
  obtain⟨ay,bD⟩:=xE (be.alloc (.cells #[Ph v.k,Ph v.n,PI v.s] 65));rw[<-bD];have u:PG be ay:=by rw[bD];exact QK
  have a1:ay.heap[be.heap.size]?=some (Qb #[Ph v.k,Ph v.n,PI v.s] 65):=by rw[bD];exact Pz _ _
  obtain⟨dV,cw⟩:=xE be.heap.size;rw[<-cw] at a1 ⊢;have cP:=cQ.fQ u;have dN:=cP.lt;have dH:=Y (fZ u cL.out);have c8:=Y (fV (fZ u cL.out));have dE:=Y (fZ u dz.out);have dJ:=dx.trans (Td.of u (Qe cQ.lt));have dP:=Y a1;have dv:=Y (f7 a1);have d0:al<ay.heap.size:=by rw[ak.out];exact(cR.kp (Kp.of u)).cells.1
  have cp:ay.cell? (Pn al 1)=some (PI aY):=by
   have ah:=(cR.kp (Kp.of u)).cells.2.2.1;have aL:=bF.cells.2.2.1;rw[<-ak.out] at ah aL;have cy:=Pj dt;rw[aL] at cy;cases cy;exact ah
  have dT:=Y cp;have dY:=fR dH.out;have d1:=fR a1;have dU:=Y (λt (f:PG ay t)=>Yt (cP.fQ f) cT Pv q aY 3 v);clear a1 cw bD cp;refine UG 10 λa=>?_;refine iF ?_;refine up 3 H 0 a ?_;refine uk 4 (c8.out.1) a ?_;refine sl ?_;refine uk 8 dT.out a ?_;refine jY 9 dv.out a ?_;refine QX 10 λK d=>?_;go_simp;refine cm (Pj dU _ a) ?_;rintro j du ⟨rfl,dS,dK⟩;refine ko d ?_;clear d K;have bX:=(Qv.of (T:=Th) a (Qe dN)).trans dK;have dQ:=Y dS
  have b8:=Y (bX.rest N _ 65 dE.out PK);have dO:=Y (dJ.trans (Td.j6 bX));obtain⟨b6,e,r,_,d6⟩:=f7 (bX.rest dV _ 65 dP.out PK);refine Ud ?_ _;obtain⟨ds,dd,di,o,dR⟩:=f7 b8.out;have dm:=o 0;have dp:=o 1;have dq:=o 2;clear o;go_simp;go_wp2_with fail;obtain⟨dg,aH⟩:=xE (((du.setCell (Pn N 0) (Ph v.k)).setCell (Pn N 1) (Ph v.n)).setCell (Pn N 2) (PI v.s));rw[<-aH];have aR:=l9 b8.out (Ph v.k) (Ph v.n) (PI v.s);have b7:k<=N:=by have:=Pj br;omega
  have aO:=TL b8.out b7 (Ph v.k) (Ph v.n) (PI v.s);have aK:=dO.out.new aO (U6 br.out _ _ _);have aJ:=dQ.out.ZR aO PK;rw[<-aH] at aR aK aJ;obtain⟨bA,bf,bi,_,_⟩:=f7 aR;exact YJ (v:=vA v) ⟨rfl,_,_,aJ,aK⟩):=Pq h;exact B5):=Pq h;exact x6):=Pq h;exact HF):=Pq h;exact oS):=Pq h;exact jA
def Ms (U:Py)(k M:Nat)(z:List Nat)(w:Py)(g:St):Prop:=∃bW bU bv bJ,Mx U k M z bW bU bv bJ w g
abbrev ZT (a:Va):Obj:=Qb #[Ph a.k,Ph a.n,PI a.s] 65
variable {w2:Py}{aJ:Option Nat}
def Ms.lt (h:Ms U k M z w g):k<w.heap.size:=by obtain⟨_,_,_,_,h⟩:=h;exact h.lt
def Ms.fQ (h:Ms U k M z w g)(a:PG w w'):Ms U k M z w' g:=by obtain⟨_,_,_,_,h⟩:=h;exact⟨_,_,_,_,h.fQ a⟩
def Ms.ZR {b:List TypeId}(h:Ms U k M z w g)(d:Qv b k w w')(c:∀a ∈ b,a ∉ Tm/\a≠40/\a≠22):Ms U k M z w' g:=by obtain⟨_,_,_,_,h⟩:=h;exact⟨_,_,_,_,h.ZR d c⟩
def Ms.below (h:Ms U k M z w g):Below k U w:=by obtain⟨_,_,_,_,h⟩:=h;exact h.bw
def Qj.ia {d:List TypeId}(h:Qj aJ k w w')(l:Qv d k w' w2)(c:∀a,a<w.heap.size->w2.heap[a]?=w'.heap[a]?):Qj aJ k w w2:=
 ⟨h.below.trans l.below,λa f i b e j=>by rw[c a (fR b)];exact h.rest a f i b e j⟩
def Qj.f2 (h:Qj none k w w'){b:Nat}{c:Array PO}{a:TypeId}(d:w.heap[b]?=some (Qb c a))(e:a ∉ Tm):w'.heap[b]?=some (Qb c a):=h.rest b c a d e Qh
def Qj.Ve (h:Qj none k w w'):Kp w w':=h.kp (λb a=>by cases a)
def Yu.RP {d:PO}{a:Er}{b:List TypeId}(h:Yu es w d a)(f:Qv b k w w')(i:126 ∉ b):Yu es w' d a:=by
 cases a with
 |no=>exact h
 |stop=>exact h
 |iZ=>exact h
 |Y3 x=>
  obtain⟨c,j,e⟩:=h;exact⟨c,j,f.rest c _ _ e i⟩
def ip (b:PO):Prop:=∃a x,b=.iface a x
def Yu.X8 {b:PO}{a:Er}(h:Yu es w b a)(d:a≠.no)(c:ip es):ip b:=by
 cases a with
 |no=>exact absurd rfl d
 |stop=>rw[show b=es from h];exact c
 |iZ=>exact⟨_,_,h⟩
 |Y3 x=>obtain⟨f,e,_⟩:=h;exact⟨_,_,e⟩
structure VB (w0:Py)(mb ag:Nat)(A:List Nat)(es:PO)(w2:Py)(v:Va)(e:Er)(σ:St)(wz:Py)(vb:Nat)(ev:PO):Prop where
 v:wz.heap[vb]?=some (ZT v)
 vb:w2.heap.size<=vb
 er:Yu es wz ev e
 ms:Ms w0 mb ag A wz σ
 fr:Qj none mb w2 wz
def VB.late {a:Py}{ev:PO}{v:Va}{e:Er}(f:Yu es a ev e)(c:Ms U k M z a g)(d:Qj none k w2 a):VB U k M z es w2 v e g (a.alloc (.cells #[Ph v.k,Ph v.n,PI v.s] 65)) a.heap.size ev:=by
 have b:PG a (a.alloc (.cells #[Ph v.k,Ph v.n,PI v.s] 65)):=QK;exact⟨Pz _ _,d.below.size,f.fQ b,c.fQ b,d.trans (Qj.of b (Qe c.lt))⟩
def VB.early {b:Py}{ev x y n:PO}{v:Va}{e:Er}{a:Nat}(f:b.heap[a]?=some (Qb #[x,y,n] 65))(c:w2.heap.size<=a)(i:k<=w2.heap.size)(l:Yu es b ev e)(j:Ms U k M z b g)(m:Qj none k w2 b) :
  VB U k M z es w2 v e g (((b.setCell (Pn a 0) (Ph v.k)).setCell (Pn a 1) (Ph v.n)).setCell (Pn a 2) (PI v.s)) a ev:=by
 have d:=TL f (gr i c) (Ph v.k) (Ph v.n) (PI v.s);exact⟨l9 f _ _ _,c,l.RP d PK,j.ZR d PK,m.ia d (U6 c _ _ _)⟩
def WY {H G:Py->Nat->PO->Prop}{goal:Prop}(d:(∀w b a,H w b a->G w b a)->goal)(c:∀w b a,H w b a->G w b a):goal:=d c
def Qg (U:Py)(k M:Nat)(z:List Nat)(es:PO)(w:Py)(a:(Va×Er)×St)(c:Ending)(w':Py):Prop:=
 (∃b,c=PY (.tuple #[vA a.1.1,b])/\Yu es w' b a.1.2)/\Ms U k M z w' a.2/\Qj none k w w'
section
variable (h:Mx U k M z bW bU bv bJ w g)
include h
def Mx.KF (x:Int×Int){c:Py}{a:PO}(C:w.grownBy c bU.ownBlock)(q:c.ownsRow k 54 2 a (g.seen.length+1) (g.seen.flatMap ma++ma x)) :
  Mx U k M z bW a bv bJ (c.setCell (Pn k 6) a) { g with seen:=g.seen++[x] }/\Qj none k w (c.setCell (Pn k 6) a):=by
 have o:Qv [54] k w c:=Qv.grown C (Qe h.lt) λE m=>by
  obtain⟨d,l⟩:=QZ h.se m;exact⟨(h.se.lt E m).1,d,54,l,by simp⟩
 have F:=h.hh.f2 o PK PK PK PK PK;obtain⟨H,n⟩:=F.cell 4 a;have b:Qv [54,84] k w (c.setCell (Pn k 6) a):=(o.mono PK Qq).trans (n.mono PK Qq);obtain⟨u,B,p,r⟩:=h.fu
 refine⟨⟨h.bw.trans b.below,H,Qa h.lg b PK,?_,Qa h.ow b PK,u,B,Qa p b PK,λD l v s A=>(r D l v s A).kp (λi d j e f=>b.rest i d j e (by rcases f with rfl|rfl <;> decide))⟩,⟨b.below,λi d j e f _=>b.rest i d j e (λl=>f (by rcases gE.1 l with rfl|l;decide;rw[gn.1 l];decide))⟩⟩
 have t:=Qa q n PK
 show World.ownsRow _ _ _ _ _ (g.seen++[x]).length ((g.seen++[x]).flatMap ma)
 rw[gg,iT];simpa using t
def Mx.aC2 (x:PS){c:Py}{a:PO}(C:w.grownBy c bW.ownBlock)(q:c.ownsRow k 9 1 a (g.hF.length+1) (g.hF.map Value.string++[PI x])) :
  Mx U k M z a bU bv bJ (c.setCell (Pn k 2) a) { g with hF:=g.hF++[x] }/\Qj none k w (c.setCell (Pn k 2) a):=by
 have o:Qv [9] k w c:=Qv.grown C (Qe h.lt) λE m=>by
  obtain⟨d,l⟩:=QZ h.lg m;exact⟨(h.lg.lt E m).1,d,9,l,by simp⟩
 have F:=h.hh.f2 o PK PK PK PK PK;obtain⟨H,n⟩:=F.cell 0 a;have b:Qv [9,84] k w (c.setCell (Pn k 2) a):=(o.mono PK Qq).trans (n.mono PK Qq);obtain⟨u,B,p,r⟩:=h.fu
 refine⟨⟨h.bw.trans b.below,H,?_,Qa h.se b PK,Qa h.ow b PK,u,B,Qa p b PK,λD l v s A=>(r D l v s A).kp (λi d j e f=>b.rest i d j e (by rcases f with rfl|rfl <;> decide))⟩,⟨b.below,λi d j e f _=>b.rest i d j e (λl=>f (by rcases gE.1 l with rfl|l;decide;rw[gn.1 l];decide))⟩⟩
 have t:=Qa q n PK
 show World.ownsRow _ _ _ _ _ (g.hF++[x]).length ((g.hF++[x]).map _)
 rw[gg,hc];exact t
end
def axX:(prog.info? 54).map (λa=>(a.zero,a.size,a.bytes))=some (some (.agg #[Ph 0,Ph 0]),2,16):=by kernel_rfl
def Ys (w:Py)(H:Nat)(e:w.heap.size=H)(b c:Int)(a:Nat)(d:PO)(h:([Ph b,Ph c]:List PO)[a]?=some d) :
  (w.alloc (.cells #[Ph b,Ph c] 54)).cell? (((Pn H 0):Addr).add a)=some d:=by
 subst e
 rcases a with _|_|a <;> simp at h
 all_goals subst h;simp[Addr.add]
def Mt (c d:Int):∀b ∈ ([Ph c,Ph d]:List PO),b.oneCell'=true:=by
 intro b a;simp at a
 rcases a with rfl|rfl <;> rfl
def Bc (a:Mo)(d:PS):∀(c:Nat)(e:Int),a.kf d c e = -1\/∃b:Nat,a.kf d c e=b/\b<a.PL.length
 |0,_=>.inl rfl
 |c+1,e=>by
  rw[Mo.kf]
  rcases QC a e with ⟨i,_⟩|⟨b,x,rfl,f,j⟩
  ·rw[i];exact .inl rfl
  ·rw[j]
   show (if a.has b d=true then (b:Int) else a.kf d c x.outer) = -1\/_
   split
   ·right;refine⟨b,?_,(gs.1 f).1⟩;simp[*]
   ·rename_i l
    simp only[];exact Bc a d c x.outer
def aue (a:Mo)(b:Int)(d:PS):a.find b d = -1\/∃c:Nat,a.find b d=c/\c<a.PL.length:=Bc _ _ _ _
variable {N:Nat}{x y fb ck:PO}{bz:TypeId}
def Ql (h:w.heap[N]?=some (Qb #[x,y,fb] bz)):w.cell? (Pn N 0)=some x/\w.cell? (Pn N 1)=some y/\w.cell? (Pn N 2)=some fb/\w.frozen? (Pn N 0)=false/\w.frozen? (Pn N 1)=false/\w.frozen? (Pn N 2)=false/\N<w.heap.size:=by
 obtain⟨c,d,b,a,e⟩:=f7 h;exact⟨c,d,b,a 0,a 1,a 2,e⟩
def SA (h:w.heap[N]?=some (Qb #[x,y,fb,ck] bz)):w.cell? (Pn N 0)=some x/\w.cell? (Pn N 1)=some y/\w.cell? (Pn N 2)=some fb/\w.cell? (Pn N 3)=some ck/\w.frozen? (Pn N 0)=false/\w.frozen? (Pn N 1)=false/\w.frozen? (Pn N 2)=false/\w.frozen? (Pn N 3)=false/\N<w.heap.size:=by
 obtain⟨d,e,b,c,a,f⟩:=fV h;exact⟨d,e,b,c,a 0,a 1,a 2,a 3,f⟩
def i1 (T:w'.heap[N]?=some (Qb #[x,y,fb] bz))(eB:w.heap.size<=N)(dl:k<w.heap.size)(ap:Qj aJ k w w')(ak:Ms U k M z w' g)(t ey Z:PO)(c8:∀j ∈ [bz],j ∉ Tm/\j≠40/\j≠22:=by decide) :
  ∃bh,bh=((w'.setCell (Pn N 0) t).setCell (Pn N 1) ey).setCell (Pn N 2) Z/\Qv [bz] k w' bh/\Qj aJ k w bh/\Ms U k M z bh g/\bh.cell? (Pn N 0)=some t/\bh.cell? (Pn N 1)=some ey/\bh.cell? (Pn N 2)=some Z:=by
 have b0:=TL T (show k<=N by omega) t ey Z;obtain⟨bA,bf,bi,_,_⟩:=f7 (l9 T t ey Z);exact⟨_,rfl,b0,ap.ia b0 (U6 eB _ _ _),ak.ZR b0 c8,bA,bf,bi⟩
def kb (T:w'.heap[N]?=some (Qb #[x,y,fb,ck] bz))(eB:w.heap.size<=N)(dl:k<w.heap.size)(ap:Qj aJ k w w')(ak:Ms U k M z w' g)(t dV Z dW:PO)(e5:∀j ∈ [bz],j ∉ Tm/\j≠40/\j≠22:=by decide) :
  ∃aY,aY=(((w'.setCell (Pn N 0) t).setCell (Pn N 1) dV).setCell (Pn N 2) Z).setCell (Pn N 3) dW/\Qv [bz] k w' aY/\Qj aJ k w aY/\Ms U k M z aY g/\aY.cell? (Pn N 0)=some t/\aY.cell? (Pn N 1)=some dV/\aY.cell? (Pn N 2)=some Z/\aY.cell? (Pn N 3)=some dW:=by
 have b0:=U8 T (show k<=N by omega) t dV Z dW;obtain⟨bf,bh,be,bi,_,_⟩:=fV (lY T t dV Z dW);exact⟨_,rfl,b0,ap.ia b0 (VJ eB _ _ _ _),ak.ZR b0 e5,bf,bh,be,bi⟩
section
variable (bo:Bs U k M z es)(D:Mx U k M z bW bU bv bJ w g)(A:Sz bm g)(aT:bm<1000000000){I:Ad}{e:Nd}(bq:Qc z w I e)(q:Pl)(n:Option Addr)
include bo D A aT I e bq q n
def wH (R:e.1=none) :
  PN 291 #[Pm k,Pm I.p,QN q n] w λj w'=>j=PY (Ph (g.M.find q.scope e.2.tx))/\Ms U k M z w' g/\Qj none k w w':=by
 have ay:=D.lt;have b{G}(h:G:=by
 have b{G}(h:G:=by
 obtain⟨ae,s⟩:=xE (g.M.find c L);have F:g.M.find (Pl.mk c B C).scope e.2.tx=ae:=by rw[<-r,s]
 rw[F];rw[<-s] at a6;clear F s;have ak:=Y R;clear E r R;have b{G}(h:G:=by
 refine uz 10 (Ph ae) ?_;refine Ud ?_ _;have ah:(Instr.lookup 80 (.map (some M)) (Pm al) true).run prog p=.ok (.tuple #[(Ph 0),PD false]) p:=by
  rw[u];unfold sM;rw[ak.out];rfl
 clear u;go_simp;go_wp2;go_ret;exact⟨rfl,⟨_,_,_,_,o⟩,aE⟩):=Pq h;exact yd):=Pq h;exact w1):=Pq h;exact mQ
def apZ {i:Nat}(F:e.1=some i)(au:g.M.find q.scope e.2.tx = -1) :
  PN 291 #[Pm k,Pm I.p,QN q n] w λj w'=>j=PY (Ph (g.M.find q.scope e.2.tx))/\Ms U k M z w' g/\Qj none k w w':=by
 have ay:=D.lt;have b{G}(h:G:=by
 have b{G}(h:G:=by
 have s:g.M.find c L = -1:=by rw[r];exact au
 rw[au];rw[s] at a6;clear s au;have bi:=Y F;clear E r F;have b{G}(h:G:=by
 refine uz 10 (Ph (-1)) ?_;have b{G}(h:G:=by
 go_ret;exact⟨rfl,⟨_,_,_,_,o⟩,aE⟩):=Pq h;exact Jo):=Pq h;exact yd):=Pq h;exact w1):=Pq h;exact mQ
def ap0 {i l:Nat}(bb:e.1=some i)(au:g.M.find q.scope e.2.tx=l)(bO:l<g.M.PL.length) :
  PN 291 #[Pm k,Pm I.p,QN q n] w λj w'=>j=PY (Ph (g.M.find q.scope e.2.tx))/\Ms U k M z w' { g with seen:=g.seen++[((i:Int),g.QL.getD l 0)] }/\Qj none k w w':=by
 have ay:=D.lt;have b{G}(h:G:=by
 have b{G}(h:G:=by
 have a8:g.M.find c L=l:=by rw[r];exact au
 rw[au];rw[a8] at a6;clear a8 au;obtain⟨x,aW⟩:=xH (g.QL.getD l 0);rw[<-aW.out];have bi:=Y bb;have bH:=Y bO;clear E r bb bO;have b{G}(h:G:=by
 refine uz 10 (Ph (l:Int)) ?_;have b{G}(h:G:=by
 obtain⟨bP,bF,bG,bD,bE⟩:=g2 axX;have bf:l<g.QL.length:=by rw[A.oe];exact Pj bH
 have s:=o.se;have R:=o.ow;obtain⟨cw,cp,be⟩:=P7 s;obtain⟨aX,cq,ax,_,_⟩:=R.form Pv;have ap:p.cell? (Pn aX l)=some (Ph (g.QL.getD l 0)):=by
  rw[ax] at R;rw[R.cellAt l Pv];simp[jc,gq bf]
 obtain⟨a7,_⟩:=o.hh.at_ 4 _ rfl;obtain⟨bh,_⟩:=o.hh.at_ 6 _ rfl;obtain⟨bB,F⟩:=xH g.seen.length;obtain⟨bS,dl⟩:=xE g.QL.length;have cj:bB<=1000000000:=by rw[F.out];exact Qe (m9 A.se aT)
 rw[<-dl] at ax bf;rw[<-F.out] at be;rw[<-aW.out] at ap;subst be ax;have cn:(l:Int)<(bS:Int):=Pv;have br:=Y a7;have bx:=Y bh;have bY:=Y ap;clear a7 bh ap dl b5 b1;refine UG 16 λa=>?_;refine iF ?_;refine up 3 k 2 a ?_;refine up 4 k 6 a ?_;refine uk 5 br.out a ?_;refine uh 6 (Ph (i:Int)) (a) ?_;refine up 7 k 0 a ?_;refine up 8 k 0 a ?_;refine up 9 k 8 a ?_;refine uk 10 bx.out a ?_;refine uh 11 (Ph (l:Int)) (a) ?_;refine up 12 aX l a ?_;refine uk 13 bY.out a ?_
 refine uh 14 (.agg #[Ph (i:Int),Ph x]) (a) ?_;refine QX 15 λK d=>?_;go_simp;refine d.out _ _ (λ_=>(RV.drew.alloc Qh _)) ?_;clear d K;refine QX 16 λK d=>?_;have ak:=o.fQ (w':=p.drew.alloc (.cells #[Ph (i:Int),Ph x] 54)) (RV.drew.alloc Qh _);have s:=ak.se;rw[<-F.out] at s
 refine step_append_lies _ rfl _ _ 27 rfl k 54 bP _ 2 16 underlying27 bF bG bD bE rfl PK _ _ _ rfl s (Pn p.heap.size 0) 1 1 [Ph (i:Int),Ph x] rfl rfl (Ys p.drew _ rfl i x) (Mt i x) PK (by unfold maxLen;omega) Pv SC (p.heap.size+1) Qh ?_
 intro bR bQ aY hown4 ae bX bZ;refine ko d ?_;clear d K;obtain⟨bL,bI⟩:=ak.KF ((i:Int),x) (a:=.slice (some (Pn bR 0)) (bB+1) bQ) ae (by rw[<-F.out];exact hown4)
 obtain⟨cg,ci⟩:=(ak.hh.f2 (a:=[54]) (l:=k) (w':=aY) (Qv.grown ae SC λi af=>by
  obtain⟨m,bA⟩:=QZ s af;exact⟨(s.lt i af).1,m,54,bA,by simp⟩) PK PK PK PK PK).at_ 4 _ rfl
 have bK:=aE.trans ((Qj.of (L:=none) ((gi _ p).drew.alloc Qh _) (Qe b2)).trans bI);have cr:k<aY.heap.size:=by have:=ae.size;simp at this;omega
 clear bX bZ;refine uz 17 (PZ k 0) ?_;refine uz 18 (PZ k 2) ?_;refine uz 19 (PZ k 6) ?_;refine VH 20 ?_;refine Ud ?_ _;go_simp;go_wp2;go_ret;exact⟨rfl,⟨_,_,_,_,bL⟩,bK⟩):=Pq h;exact Jo):=Pq h;exact yd):=Pq h;exact w1):=Pq h;exact mQ
end
def HM (j:Bs U k M z es)(p:Ms U k M z w g)(i:Sz bm g)(m:bm<1000000000){o:Ad}{b:Nd}(n:Qc z w o b)(a:Pl)(f:Option Addr) :
  PN 291 #[Pm k,Pm o.p,QN a f] w λr w'=>r=PY (Ph (look b a g).1)/\Ms U k M z w' (look b a g).2/\Qj none k w w':=by
 obtain⟨bW,bU,bv,bJ,l⟩:=p
 cases c:b.1 with
 |none=>
  have e:look b a g=(g.M.find a.scope b.2.tx,g):=by unfold look;rw[c]
  rw[e];exact wH j l i m n a f c
 |some t=>
  rcases aue g.M a.scope b.2.tx with d|⟨s,d,q⟩
  ·have e:look b a g=(g.M.find a.scope b.2.tx,g):=by unfold look;rw[c,d];rfl
   rw[e];exact apZ j l i m n a f c d
  ·have e:look b a g=(g.M.find a.scope b.2.tx,{ g with seen:=g.seen++[((t:Int),g.QL.getD s 0)] }):=by
    unfold look;rw[c,d];simp
   rw[e];exact ap0 j l i m n a f c d q
def p6 (b:Nd)(c:Pl)(g:St):(Va×Er)×St:=
 let a:=look b c g
 let x:=a.2.M.read a.1 b.2.tx
 if x.2=0 then ((x.1,.no),a.2) else ((vU,ga SK),a.2)
def Sz.look {bm:Nat}{g:St}(h:Sz bm g)(a:Nd)(b:Pl):Sz (bm+1) (look a b g).2:=by
 unfold Hp.look;simp only
 split
 ·split
  ·exact⟨h.go.up (gw _),gR h.ow,gR h.fn,gR h.lg,by have:=h.se;simp;omega,h.oe⟩
  ·exact h.up (gw _)
 ·exact h.up (gw _)
def VI (_:k<w.heap.size)(a:PS):PN 269 #[PI a] w λb w'=>(∃c,b=PY c/\Yu es w' c (ga a))/\PG w w':=by
 refine(Yq a w).mono ?_;rintro b w' ⟨⟨e,rfl,_,c⟩,d⟩;exact⟨⟨_,rfl,e,rfl,c⟩,d⟩
def Kp.YV (h:Kp w w'){a d:Nat}{e:PO}(i:w.cell? (Pn a d)=some e)(b:∃c,w.heap[a]?=some (Qb c 40)):w'.cell? (Pn a d)=some e:=by
 obtain⟨c,b⟩:=b;have f:w'.heap[a]?=w.heap[a]?:=(h a c 40 b (fU rfl)).trans b.symm;exact(gN (w:=w) (a:=(Pn a d)) f).trans i
def ax1 (bP:Bs U k M z es)(ak:Ms U k M z w g)(bF:Sz bm g)(bY:bm+1<1000000000){I:Ad}{X:Nd}(aQ:Qc z w I X)(c:Pl)(n:Option Addr) :
  PN 256 #[Pm k,Pm I.p,QN c n] w (Qg U k M z es w (p6 X c g)):=by
 have b{G}(h:G:=by
 have aK:=aQ.kp (Kp.of aI);have aT:=Y (λt (e:PG w2 t)=>HM bP ((ak.fQ aI).fQ e) bF Pv (aK.kp (Kp.of e)) ⟨F,B,C⟩ n);obtain⟨aX,br⟩:=xE ((look X ⟨F,B,C⟩ g).1);obtain⟨L,aR⟩:=xE ((look X ⟨F,B,C⟩ g).2);obtain⟨u,be⟩:=xE X.2.tx;obtain⟨a,bE⟩:=xE ((L.M.read aX u).1);obtain⟨r,bn⟩:=xE ((L.M.read aX u).2);have bL:=bF.look X ⟨F,B,C⟩;rw[<-br,<-aR] at aT;rw[<-aR] at bL;have bK:p6 X ⟨F,B,C⟩ g=if r=0 then ((a,.no),L) else ((vU,ga SK),L):=by
  unfold p6;simp only;rw[<-br,<-aR,<-be,<-bE,<-bn]
 rw[bK];obtain⟨cg,a6⟩:=xH (if r=0 then ((a,Er.no),L) else ((vU,ga SK),L));rw[<-a6.out];have bo:Hid (∀t,Ms U k M z t L->PN 290 #[Pm k,Ph aX,PI u] t λj w'=>j=PY (.tuple #[vA a,Vg r])/\PG t w'):=λt e=>by
  obtain⟨_,_,_,_,d⟩:=e;have h:=axP d.hh bL.go.sm (Qe bY) aX u;rw[<-bE,<-bn] at h;exact h
 have bS:=ak.fQ aI;have ax:Hid (w2.heap[cJ]?=some (pj ⟨F,B,C⟩ n)/\w2.cell? (Pn I.p 1)=some (PI u)):=⟨E,by rw[be];exact aK.cells.2.2.1⟩
 have bN:=Y aK.gG;have bR:=Qj.of (L:=none) aI (Qe aW);have bG:=Y a7;have a8:=Y bb;obtain⟨ae,bI⟩:=xE I.p;have bX:=aK.cells.1;rw[<-bI] at ax aT bN bX ⊢;have aO:=bS.lt;have b5:=fR E;clear E a7 bI be bK br aR bE bn bb bD bH;go_enter func256,ntmps256;go_wp2_with fail;refine iJ ?_;clear bx bq;refine WY (H:=λwz al p=>VB U k M z es w2 a .no L wz al RI/\p=Vg r) (G:=?GG) (λb2=>?ways) ?rest
 case ways=>
  have q:(λt=>t.heap[cJ]?=some (pj ⟨F,B,C⟩ n)/\t.cell? (Pn ae 1)=some (PI u)) w2.drew:=Pj ax;have aH:PG w2 w2.drew:=RV.drew;refine Qd 11 (λt=>t.heap[cJ]?=some (pj ⟨F,B,C⟩ n)/\t.cell? (Pn ae 1)=some (PI u)) Qz ?_;refine up 0 k 0 q ?_;refine up 1 k 0 q ?_;refine up 2 k 0 q ?_;refine up 3 k 0 q ?_;refine up 4 ae 0 q ?_
  refine uc 5 (.agg #[Ph F,Ph B,PD C,.pointer n]) rfl (fU ⟨by kernel_rfl,λt e=>by have aD:=(fV e.1).1;have ah:=(fV e.1).2.1;have aL:=(fV e.1).2.2.1;have ap:=(fV e.1).2.2.2.1;go_simp⟩) (q) ?_
  refine up 7 ae 0 q ?_;refine up 8 ae 0 q ?_;refine up 9 ae 1 q ?_;refine uc 10 (PI u) rfl (fU ⟨by kernel_rfl,λt e=>by have aD:=e.2;go_simp⟩) (q) ?_
  refine jZ 6 15 (λK d=>?_) λK d=>?_
  ·go_simp;refine cm (Pj aT _ (aH)) ?_;rintro j o ⟨rfl,f,aE⟩;have af:=(Qj.of (aH) (Qe aO)).trans aE;have b{G}(h:G:=by
   refine jZ 11 15 (λK d=>?_) λK d=>?_
   ·go_simp;refine cm (Pj bo _ (f)) ?_;rintro j D ⟨rfl,s⟩;refine ko d ?_;clear d K;refine yX ?_;refine VH 15 ?_;refine VH 16 ?_;refine uz 17 (Vg r) ?_;refine Ud ?_ _;go_simp;have A:=VB.late (v:=a) (es:=es) (e:=.no) (ev:=RI) rfl (f.fQ s) (af.trans (Qj.of s (Qe f.lt)))
    generalize D.alloc (.cells #[Ph a.k,Ph a.n,PI a.s] 65)=wz at A ⊢
    generalize D.heap.size=al at A ⊢
    exact yq
   ·go_simp;have ap:=(gi _ o).alloc Qq (.cells #[Ph 0,Ph 0,QB] 65);refine d.out _ _ (λ_=>⟨fZ ap H.1,PV ap H.2⟩) ?_;clear d K;refine QX 11 λK d=>?_;go_simp;refine cm (Pj bo _ (f.fQ ap)) ?_;rintro j D ⟨rfl,s⟩;refine ko d ?_;clear d K;have ay:D.heap[o.heap.size]?=some (Qb #[Ph 0,Ph 0,QB] 65):=(s.block _ Qh).trans (Pz o _);obtain⟨bi,aY,bA,a1,bf,bh,bQ⟩:=Ql ay;refine yX ?_;refine VH 16 ?_;refine uz 17 (Vg r) ?_;refine Ud ?_ _;go_simp
    have A:=VB.early (v:=a) (es:=es) (e:=.no) (ev:=RI) ay af.below.size (Qe aO) rfl ((f.fQ ap).fQ s) (af.trans ((Qj.of ap (Qe f.lt)).trans (Qj.of s (by simp;have:=f.lt;omega))))
    generalize ((D.setCell (Pn o.heap.size 0) (Ph a.k)).setCell (Pn o.heap.size 1) (Ph a.n)).setCell (Pn o.heap.size 2) (PI a.s)=wz at A ⊢
    generalize o.heap.size=al at A ⊢
    exact yq):=Pq h;exact Gn
  ·go_simp;have ap:PG w2 (w2.alloc (.cells #[Ph 0,Ph 0,QB] 65)).drew:=QK.drew;refine d.out _ _ (λ_=>⟨fZ ap ax.out.1,PV ap ax.out.2⟩) ?_;clear d K;refine QX 6 λK d=>?_;go_simp;refine cm (Pj aT _ (ap)) ?_;rintro j o ⟨rfl,f,aE⟩;have af:=(Qj.of (ap) (Qe aO)).trans aE;have b{G}(h:G:=by
   have bZ:o.heap[w2.heap.size]?=some (Qb #[Ph 0,Ph 0,QB] 65):=aE.f2 (Pz _ _) PK;refine QX 11 λK d=>?_;go_simp;refine cm (Pj bo _ (f)) ?_;rintro j D ⟨rfl,s⟩;refine ko d ?_;clear d K;have ay:D.heap[w2.heap.size]?=some (Qb #[Ph 0,Ph 0,QB] 65):=fZ s bZ;obtain⟨bi,aY,bA,a1,bf,bh,bQ⟩:=Ql ay;refine yX ?_;refine VH 16 ?_;refine uz 17 (Vg r) ?_;refine Ud ?_ _;go_simp
   have A:=VB.early (v:=a) (es:=es) (e:=.no) (ev:=RI) ay Qq (Qe aO) rfl (f.fQ s) (af.trans (Qj.of s (Qe f.lt)))
   generalize ((D.setCell (Pn w2.heap.size 0) (Ph a.k)).setCell (Pn w2.heap.size 1) (Ph a.n)).setCell (Pn w2.heap.size 2) (PI a.s)=wz at A ⊢
   generalize w2.heap.size=al at A ⊢
   exact yq):=Pq h;exact Gn
 case rest=>
  rintro wz al p ⟨q,rfl⟩;have b{G}(h:G:=by
  obtain⟨O,A,H,aZ,ba,bO,aM⟩:=Ql (q.v);have f:=q.ms.lt;have D:al≠N:=λj=>by
   have ah:=q.vb;have aL:=fR bG.out;omega
  have l:Qj none k w wz:=bR.trans q.fr;clear cA
  by_cases aD:r=0
  ·subst aD;rw[A6];go_wp2_with fail;obtain⟨bh,a1⟩:=xE (((wz.setCell (Pn N 0) (Ph a.k)).setCell (Pn N 1) (Ph a.n)).setCell (Pn N 2) (PI a.s));rw[<-a1];have d:=l9 bQ.out (Ph a.k) (Ph a.n) (PI a.s);have m:k<=N:=by have:=Pj a8;omega
   have aY:=TL bQ.out m (Ph a.k) (Ph a.n) (PI a.s);have aH:=l.ia aY (U6 a8.out _ _ _);have aE:=q.ms.ZR aY PK;rw[<-a1] at d aH aE;obtain⟨bA,bf,bi,_,_⟩:=f7 d;refine YJ (v:=.tuple #[vA a,RI]) ?_;rw[a6.out,fY trivial];exact⟨⟨_,rfl,rfl⟩,aE,aH⟩
  ·rw[xv aD];have o:=Y aD;clear aD;go_wp2_with fail;refine cm (VI (es:=es) f SK) ?_;rintro j au ⟨⟨p,rfl,m⟩,d⟩;have cn:=Y (fZ d bQ.out);have dp:=q.ms.fQ d;have dm:=l.trans (Qj.of (L:=none) d (Qe f));obtain⟨bZ,ad,b1,ay,s,b3,af⟩:=Ql cn.out;clear cg cp cq cr cw cx cy;have b{G}(h:G:=by
   rw[a6.out,fT o.out];exact⟨⟨_,rfl,m.RP aY PK⟩,aE,aH⟩):=Pq h;exact sN):=Pq h;exact rD):=Pq h;exact xp
def UH (U:Py)(k M:Nat)(z:List Nat)(es:PO)(g:St)(d:Nd)(e:Pl)(f:(Va×Er)×St):Prop:=
 ∀(a:Py)(b:Ad)(c:Option Addr),Ms U k M z a g->Qc z a b d->PN 196 #[Pm k,Pm b.p,QN e c] a (Qg U k M z es a f)
def o9 (b:Fx)(c:Nd)(e:Pl)(g:St):(Va×Er)×St:=match b.v (Px c 0) e g with
 |((d,.no),a)=>((Ri (!d.jv),.no),a)
 |((_,d),a)=>((vU,d),a)
def mf (b:Fx)(a:Nd)(c:Pl)(g:St):(Va×Er)×St:=match b.v (Px a 0) c g with
 |((d,.no),e)=>if d.jv=decide (a.2.kd=25) then ((d,.no),e) else b.v (Px a 1) c e
 |d=>d
def pb (c:Fx)(b:Nd)(e:Pl)(g:St):(Va×Er)×St:=match UW c (Px b 0) e g with
 |((d,.no),a)=>((((a.M.gQ d b.2.tx).map Pr.v).getD vU,.no),a)
 |((_,d),a)=>((vU,d),a)
def Ml (U:Py)(k M:Nat)(z:List Nat)(es:PO)(w:Py)(a:(Int×Er)×St)(c:Ending)(w':Py):Prop:=
 (∃b,c=PY (.tuple #[Ph a.1.1,b])/\Yu es w' b a.1.2)/\Ms U k M z w' a.2/\Qj none k w w'
variable {X:Fx}
section
variable (au:ip es)(ak:Ms U k M z w g){I:Ad}{A:Nd}(aQ:Qc z w I A)
include au ak I A aQ
def xa (q:Pl)(n:Option Addr)(aL:UH U k M z es g A q (X.v A q g)) :
  PN 200 #[Pm k,Pm I.p,QN q n] w (Ml U k M z es w (UW X A q g)):=by
 have aW:=ak.lt;have b{G}(h:G:=by
 have ay:w.heap.size<=H:=Pv;have b{G}(h:G:=by
 have b{G}(h:G:=by
 obtain⟨aY,m⟩:=xE I.p;have p:=aL w2 I n br aX;obtain⟨O,j⟩:=xH (UW X A ⟨c,B,C⟩ g);rw[<-j.out,<-m];rw[<-m] at p
 rcases T:X.v A ⟨c,B,C⟩ g with ⟨⟨a,u⟩,S⟩
 rw[T] at p;have o:=Y T;obtain⟨al,aM,ax,ap,_,_⟩:=fV E;clear E T m ay;go_enter func200,ntmps200;go_wp2_with fail;rw[<-a1.out,<-aO];clear aO;refine cm p ?_;rintro aE i ⟨⟨F,rfl,f⟩,l,aK⟩;have aD:=f;have D:=bF.trans aK;have L:=l.lt;clear al aM ax ap
 by_cases s:u=.no
 ·subst s;have r:F=RI:=f;subst r
  by_cases ad:a.k=5
  ·go_wp2_with fail;have d:O=((a.n,.no),S):=by rw[j.out];unfold UW;rw[o.out];simp[ad]
   refine Uj (v:=.tuple #[Ph a.n,RI]) ?_;rw[d];exact⟨⟨_,rfl,rfl⟩,l.fQ QK,D.trans (Qj.of QK (Qe L))⟩
  ·have d:O=((-1,ga gJ),S):=by rw[j.out];unfold UW;rw[o.out];simp[ad]
   have t:=Y d;clear d;go_wp2_with fail;have e:=(gi i.heap.size i).alloc Qq (.cells #[Ph a.k,Ph a.n,PI a.s] 65);have ah:=l.fQ e;have aH:=D.trans (Qj.of (L:=none) e (Qe L));have ae:=ah.lt;refine cm (VI (es:=es) ae gJ) ?_;rintro aE aU ⟨⟨F,rfl,f⟩,af⟩;have aT:=ah.fQ af;have aR:=aH.trans (Qj.of (L:=none) af (Qe ae));go_wp2_with fail;refine Uj (v:=.tuple #[Ph (-1),F]) ?_;rw[t.out];exact⟨⟨_,rfl,f⟩,aT,aR⟩
 ·obtain⟨ad,ae,r⟩:=f.X8 s au;subst r;have d:O=((-1,u),S):=by
   rw[j.out];unfold UW;rw[o.out];exact kc
  have t:=Y d;clear s d;go_wp2_with fail;have e:=(gi i.heap.size i).alloc Qq (.cells #[Ph a.k,Ph a.n,PI a.s] 65);refine Uj (v:=.tuple #[Ph (-1),.iface ad ae]) ?_;rw[t.out];exact⟨⟨_,rfl,aD.fQ e⟩,l.fQ e,D.trans (Qj.of (L:=none) e (Qe L))⟩):=Pq h;exact nq):=Pq h;exact oJ):=Pq h;exact mQ
def NR (af:A.2.fS.length=1)(c:Pl)(n:Option Addr)(ah:UH U k M z es g (Px A 0) c (X.v (Px A 0) c g)) :
  PN 260 #[Pm k,Pm I.p,QN c n] w (Qg U k M z es w (o9 X A c g)):=by
 have b{G}(h:G:=by
 have bE:=Y (fV E);have b{G}(h:G:=by
 have b{G}(h:G:=by
 have b{G}(h:G:=by
 obtain⟨bI,o⟩:=xE (o9 X A ⟨F,B,C⟩ g);rw[<-o,<-a6.out];have b{G}(h:G:=by
 have be:=Y o;have aO:=Y T;clear E a7 o T ah bD bb bH bo bn b2;go_enter func260,ntmps260;go_wp2_with fail;refine iJ ?_;clear bx bq;refine WY (H:=λwz D p=>VB U k M z es w2 e u L wz D p) (G:=?GG) (λaT=>?ways) ?rest
 case ways=>
  exact nF
 case rest=>
  have b{G}(h:G:=by
  have b1:Qj none k w wz:=bF.trans q.fr;clear cA;obtain⟨aZ,aK,aM,ba,bK,bO,b3⟩:=Ql (q.v)
  by_cases s:u=.no
  ·subst s;have d:p=RI:=q.er;subst d;have O:=Yr e wz;obtain⟨bt,ae⟩:=xH e.jv;rw[<-ae.out] at O;go_wp2_with fail;refine cm O ?_;rintro j aR ⟨rfl,m⟩;go_wp2_with fail;obtain⟨H,r⟩:=xH (Ri (!bt));have ad:=WX (!bt) aR;rw[<-r.out] at ad;refine cm ad ?_;rintro j bN ⟨rfl,aD⟩;have l:=m.trans (aD.mono m.size);have ay:=Y (fZ l bQ.out);have bS:=q.ms.fQ l;have bR:=b1.trans (Qj.of (L:=none) l (Qe dv));obtain⟨b6,bX,b7,bZ,bL,b8,bY⟩:=Ql ay.out
   clear du cn dp dq dr dt aZ aK aM ba bK bO;have b{G}(h:G:=by
   have a:bI=((H,.no),L):=by rw[be.out];unfold o9;rw[aO.out,r.out,ae.out]
   rw[a];exact⟨⟨_,rfl,rfl⟩,aE,aH⟩):=Pq h;exact n5
  ·obtain⟨bL,bN,d⟩:=q.er.X8 s au;subst d;have a:bI=((vU,u),L):=by
    rw[be.out];unfold o9;rw[aO.out];exact kc
   have l:=Y a;clear s a;have be:=l;exact sF):=Pq h;exact Fq):=Pq h;exact p7):=Pq h;exact o1):=Pq h;exact nr):=Pq h;exact VQ):=Pq h;exact YA
end
section
open Go.RowKit Go.Extern.Stop Go.Stop Go.Extern
def KC {w:Py}{a:Nat}{b l:PO}(c d:Obj)(f:w.cell? (Pn a 0)=some l)(o:a<w.heap.size) :
  (((w.setCell (Pn a 0) b).alloc c).alloc d).cell? (Pn a 0)=some b/\Below a w (((w.setCell (Pn a 0) b).alloc c).alloc d):=by
 have e:Below a w (w.setCell (Pn a 0) b):=RV.setCell (p:=(Pn a 0)) Qq _;have m:=e.size;have i:(w.setCell (Pn a 0) b).cell? (Pn a 0)=some b:=World.cell?_setCell_same _ _ _ f;have j:((w.setCell (Pn a 0) b).alloc c).cell? (Pn a 0)=some b:=by rw[g9 _ _ _ Pv];exact i
 have n:((w.setCell (Pn a 0) b).alloc c).heap.size=(w.setCell (Pn a 0) b).heap.size+1:=World.size_alloc _ _;refine⟨by rw[g9 _ _ _ Pv];exact j,(e.alloc Pv _).alloc Pv _⟩
def pp (c:Int)(a b:Nat)(w:Py)(e:w.cell? (Pn a 0)=some (Ph 0))(j:w.frozen? (Pn a 0)=false)(l:w.cell? (Pn b 0)=some (PZ a 0))(f:a<w.heap.size)(i:b<w.heap.size) :
  PN 65 #[.iface 34 (Ph c),.iface 86 (PZ a 0),.agg #[PZ 13 86,PZ b 0,.int .u64 150],.iface 215 (.agg #[PZ 13 34])] w λm w'=>
   m=PY (PD true)/\w'.cell? (Pn a 0)=some (Ph c)/\Below a w w':=by
 have d{G}(h:G:=by
 have n:=R9.E7;have o:=R9.acj;have p:=R9.amA;have q:=R9.Z1 (Pn b 0) (Pn a 0) (w.alloc (.cells #[PZ 13 86,PZ b 0,.int .u64 150] 130)) (by rw[g9 _ _ _ i];exact l)
 have r:=R9.aA5 (Pn a 0) (Pn (w.heap.size+1) 0) c (Ph 0) ((w.alloc (.cells #[PZ 13 86,PZ b 0,.int .u64 150] 130)).alloc (.cells #[Ph c] 34))
  (by rw[iC _ _ _ _ Qh];rfl) (by rw[g9 _ _ _ SC,g9 _ _ _ f];exact e) (by rw[jO _ _ _ SC,jO _ _ _ SC];exact j)
 go_enter func65,ntmps65
 go_wp2
 refine lJ 1 ?_;rw[lv]
 go_wp2
 go_ret;exact⟨rfl,KC _ _ e f⟩):=Pq h;exact si
def Ta (j:Int)(a:Nat)(w:Py)(s:w.cell? (Pn a 0)=some (Ph 0))(r:w.frozen? (Pn a 0)=false)(l:a<w.heap.size)(o:w.cell? (Pn 0 0)=some (.iface 215 (.agg #[PZ 13 31]))) :
  PN 32 #[.iface 34 (Ph j),.iface 86 (PZ a 0)] w λq w'=>q=PY (PD true)/\w'.cell? (Pn a 0)=some (Ph j)/\Below a w w':=by
 have p{G}(h:G:=by
 have H:=R9.amB;have B:=R9.aw2;have L:=R9.LZ;have O:=R9.LE;have A:=R9.N3;have I:=R9.PB;have D:0<w.heap.size:=CO
 obtain⟨b,d⟩:=xE ((w.alloc (.cells #[PZ a 0] 86)).alloc (.cells #[PZ 13 86,PZ w.heap.size 0,.int .u64 150] 130));have P:((w.alloc (.cells #[PZ a 0] 86)).alloc (.cells #[PZ 13 86,PZ w.heap.size 0,.int .u64 150] 130)).cell? (Pn 0 0)=some (.iface 215 (.agg #[PZ 13 31])):=Du
 have e:b.cell? (Pn w.heap.size 0)=some (PZ a 0):=EG
 have n:b.cell? (Pn a 0)=some (Ph 0):=by rw[d,g9 _ _ _ SC,g9 _ _ _ l];exact s
 have p{G}(h:G:=by
 have u:=R9.as1 (Pn w.heap.size 0) (Pn a 0) b e;rw[d] at u;have c:Hid _:=pp j a w.heap.size b n f e Pv Pv;rw[d] at c m;clear v f n e d b;exact J2):=Pq h;exact I8):=Pq h;exact Dh
def as2 (i:Int)(c e:Nat)(w:Py)(_:w.cell? (Pn c 0)=some Rz)(_:w.frozen? (Pn c 0)=false)(_:w.cell? (Pn e 0)=some (PZ c 0))(_:c<w.heap.size)(_:e<w.heap.size) :
  PN 65 #[.iface 34 (Ph i),.iface 123 (PZ c 0),.agg #[PZ 13 123,PZ e 0,.int .u64 150],.iface 215 (.agg #[PZ 13 122])] w λf w'=>
   f=PY (PD false)/\PG w w':=by
 have d{G}(h:G:=by
 have j:=R9.E7;have l:=R9.abn;have m:∀(b:PO)(a:TypeId)(w:Py),(Instr.typeAssert (.iface 34 b) a 220 true).run prog w=.ok (.tuple #[RI,PD false]) w:=λb a w=>run_typeAssert_lacksB underlying220 Qz Qz b a w;have n:∀(b:PO)(a:TypeId)(w:Py),(Instr.typeAssert (.iface 34 b) a 223 true).run prog w=.ok (.tuple #[RI,PD false]) w:=λb a w=>run_typeAssert_lacksB underlying223 Qz Qz b a w
 have o:∀(b:PO)(a:TypeId)(w:Py),(Instr.typeAssert (.iface 34 b) a 224 true).run prog w=.ok (.tuple #[RI,PD false]) w:=λb a w=>run_typeAssert_lacksB underlying224 Qz Qz b a w;go_enter func65,ntmps65
 go_wp2
 refine lJ 1 ?_;rw[lv]
 go_wp2
 go_ret;exact⟨rfl,QK⟩):=Pq h;exact si
def O7 (s:Int)(a:Nat)(w:Py)(u:w.cell? (Pn a 0)=some Rz)(r:w.frozen? (Pn a 0)=false)(l:a<w.heap.size)(o:w.cell? (Pn 0 0)=some (.iface 215 (.agg #[PZ 13 31]))) :
  PN 32 #[.iface 34 (Ph s),.iface 123 (PZ a 0)] w λq w'=>q=PY (PD false)/\PG w w':=by
 have e{G}(h:G:=by
 have e{G}(h:G:=by
 have c:Hid _:=as2 s a w.heap.size b n f j Pv Pv;exact Gp):=Pq h;exact uO):=Pq h;exact wL
def Sa (f:Addr)(c e:Nat)(w:Py)(_:w.cell? (Pn c 0)=some Rz)(_:w.frozen? (Pn c 0)=false)(_:w.cell? (Pn e 0)=some (PZ c 0))(_:c<w.heap.size)(_:e<w.heap.size) :
  PN 65 #[.iface 359 (.pointer (some f)),.iface 123 (PZ c 0),.agg #[PZ 13 123,PZ e 0,.int .u64 150],.iface 215 (.agg #[PZ 13 122])] w λi w'=>
   i=PY (PD false)/\PG w w':=by
 have d{G}(h:G:=by
 have j:=R9.amC;have l:=R9.aaC;have m:∀(b:PO)(a:TypeId)(w:Py),(Instr.typeAssert (.iface 359 b) a 220 true).run prog w=.ok (.tuple #[RI,PD false]) w:=λb a w=>run_typeAssert_lacksB underlying220 Qz Qz b a w;have n:∀(b:PO)(a:TypeId)(w:Py),(Instr.typeAssert (.iface 359 b) a 223 true).run prog w=.ok (.tuple #[RI,PD false]) w:=λb a w=>run_typeAssert_lacksB underlying223 Qz Qz b a w
 have o:∀(b:PO)(a:TypeId)(w:Py),(Instr.typeAssert (.iface 359 b) a 224 true).run prog w=.ok (.tuple #[RI,PD false]) w:=λb a w=>run_typeAssert_lacksB underlying224 Qz Qz b a w;go_enter func65,ntmps65
 go_wp2
 refine lJ 1 ?_;rw[lv]
 go_wp2
 go_ret;exact⟨rfl,QK⟩):=Pq h;exact si
def Ir (s:Addr)(a:Nat)(w:Py)(u:w.cell? (Pn a 0)=some Rz)(r:w.frozen? (Pn a 0)=false)(l:a<w.heap.size)(o:w.cell? (Pn 0 0)=some (.iface 215 (.agg #[PZ 13 31]))) :
  PN 32 #[.iface 359 (.pointer (some s)),.iface 123 (PZ a 0)] w λq w'=>q=PY (PD false)/\PG w w':=by
 have e{G}(h:G:=by
 have e{G}(h:G:=by
 have c:Hid _:=Sa s a w.heap.size b n f j Pv Pv;exact Gp):=Pq h;exact uO):=Pq h;exact wL
def ID (a:Nat)(w:Py)(P:TypeId):PN 32 #[RI,.iface P (PZ a 0)] w λb w'=>b=PY (PD false)/\w'=w:=by
 go_enter func32,ntmps32;go_wp2;go_ret;exact⟨rfl,rfl⟩
abbrev Tv (w:Py):Prop:=w.cell? (Pn 0 0)=some (.iface 215 (.agg #[PZ 13 31]))
def ZW {w:Py}(h:Tv w):0<w.heap.size:=by
 rcases im 0 w.heap.size with a|a
 ·exact a
 ·simp[Tv,World.cell?,kF a] at h
def Wh {w w':Py}{a:Nat}(h:Tv w)(b:Below a w w')(c:0<a):Tv w':=by
 unfold Tv;rw[b.cell (p:=(Pn 0 0)) c];exact h
def aoJ (e:Int)(w:Py)(n:Tv w) :
  PN 12 #[.iface 34 (Ph e)] w λm w'=>m=PY (Ph e)/\PG w w':=by
 have l:=ZW n;obtain⟨a,b⟩:=xE (w.alloc (.cells #[Ph 0] 34));have j:a.cell? (Pn w.heap.size 0)=some (Ph 0):=by rw[b,iC _ _ _ _ rfl];rfl
 have f:a.frozen? (Pn w.heap.size 0)=false:=by rw[b];exact World.frozen?_alloc_at _ _ _ _ rfl
 have q:a.heap.size=w.heap.size+1:=by rw[b];simp
 have d:PG w a:=by rw[b];exact QK
 have o:Tv a:=Wh n d l;have c:Hid _:=Ta e w.heap.size a j f Pv o;rw[b] at c d;clear o q f j b a l;go_enter func12,ntmps12;go_wp2_with fail;refine XO ?_;rintro m w2 ⟨rfl,r,p⟩;go_wp2;go_ret;exact⟨rfl,d.trans p⟩
def aoK (w:Py):PN 12 #[RI] w λa w'=>a=PY (Ph 0)/\PG w w':=by
 go_enter func12,ntmps12;go_wp2;go_ret;exact⟨rfl,RV⟩
def Xg (a:Int)(w:Py)(c:Tv w):PN 12 #[Vg a] w λb w'=>b=PY (Ph a)/\PG w w':=by
 by_cases h:a=0
 ·subst h;exact aoK w
 ·rw[xv h];exact aoJ a w c
