import Derived.Test.YtoimgcjbcbhclaaGreatDoorAz4
import Derived.ChangeAlike
import Derived.Deep.DrawnRows
import Derived.Deep.AppendLies
import Derived.MapKept
set_option maxRecDepth 100000
set_option maxHeartbeats 0
set_option linter.all false
namespace Go.Proofs.YtoimgcjbcbhclaaGreatDoor
open Go.RowKit Go.Proofs.Tryz
structure Ap (R B:Nat)(w w':LK):Prop where
 os:w'.os=w.os
 tape:w'.tape=w.tape
 output:w'.output=w.output
 size:w.heap.size<=w'.heap.size
 block:∀ k,k<B->k≠R->w'.heap[k]? = w.heap[k]?
def Ap.refl (R B:Nat)(w:LK):Ap R B w w:=⟨rfl,rfl,rfl,Nh,λ_ _ _=>rfl⟩
def Ap.of {R B:Nat}{w w':LK}(h:Below B w w'):Ap R B w w':=⟨h.os,h.tape,h.output,h.size,λk N _=>h.block k N⟩
def Ap.trans {R B:Nat}{a b c:LK}(h:Ap R B a b)(k:Ap R B b c):Ap R B a c:=
 ⟨k.os.trans h.os,k.tape.trans h.tape,k.output.trans h.output,zalan h.size k.size,λn av T=>(k.block n av T).trans (h.block n av T)⟩
def Ap.mono {R B B':Nat}{w w':LK}(h:Ap R B w w')(bA:B'<=B):Ap R B' w w':=⟨h.os,h.tape,h.output,h.size,λk N=>h.block k (zalau N bA)⟩
def Ap.next {R:Nat}{a b c:LK}(h:Ap R a.heap.size a b)(k:Ap R b.heap.size b c):Ap R a.heap.size a c:=h.trans (k.mono h.size)
section
variable {R B:Nat} {a w:LK} (h:Ap R B a w)
include R B a w h
def Ap.drew:Ap R B a w.drew:=⟨h.os,h.tape,h.output,h.size,h.block⟩
def Ap.alloc (bA:B<=w.heap.size)(o:Obj):Ap R B a (w.alloc o):=
 h.trans (Ap.of ((zalbd B w).alloc bA o))
def Ap.setCell {p:Addr}(ae:B<=p.block\/p.block=R)(u:LY):Ap R B a (w.setCell p u):=
 ⟨h.os,h.tape,h.output,by simpa using h.size,λk N T=>by rw[zalap w p u k LM];exact h.block k N T⟩
end
def Ap.grown {R B:Nat}{a w w':LK}{row:Option Nat}(h:Ap R B a w)(hg:w.grownBy w' row)(bA:B<=w.heap.size)(T:∀ k,row=some k->B<=k):Ap R B a w':=
 h.trans (Ap.of ((zalbd B w).grown hg bA T))
section
variable {R B:Nat} {w w':LK} (h:Ap R B w w')
include R B w w' h
def Ap.cell {p:Addr}(ae:p.block<B)(T:p.block≠R):w'.cell? p=w.cell? p:=zalar (w:=w) (h.block p.block ae T)
def Ap.below (bA:B<=R):Below B w w':=⟨h.os,h.tape,h.output,h.size,λk N=>h.block k N LM⟩
end
def lt_of_heap {w:LK}{b:Nat}{o:Obj}(h:w.heap[b]? = some o):b<w.heap.size:=(zalbv.1 h).1
abbrev MB (kd:Int)(tx:LW)(n:Int)(v:LY):Obj:=NK #[LJ kd,LQ tx,LJ n,v] 49
abbrev LC (p:Nat):LY:=Mc p 0
def ahQ (I:Nat->Prop)(w:LK)(v:LY)(ps:List Nat):Prop:=w.ownsRow 0 22 1 v ps.length (ps.map LC)/\∀ g,v.ownBlock=some g->I g
mutual
def Nj (I:Nat->Prop)(w:LK):Tr->Nat->Prop
 | .mk kd tx n ks,p=>I p/\∃ v ps,w.heap[p]? = some (MB kd tx n v)/\ahQ I w v ps/\LU (λb=>I b/\b≠p) w ks ps
def LU (I:Nat->Prop)(w:LK):List Tr->List Nat->Prop
 | [],ps=>ps=[]
 | t::ts,ps=>∃ p d8 M,ps=p::d8/\Nj (λb=>I b/\b<M) w t p/\LU (λb=>I b/\M<=b) w ts d8
end
def Pq (I:Nat->Prop)(w w':LK):Prop:=∀ b,I b->b<w.heap.size->w'.heap[b]? = w.heap[b]?
def L8 {I:Nat->Prop}{w w':LK}{B e sz:Nat}{v:LY}{n:Nat}{bQ:List LY}(aa:Pq I w w')(cz:∀ g,v.ownBlock=some g->I g)(h:w.ownsRow B e sz v n bQ):w'.ownsRow B e sz v n bQ:=by
 refine⟨h.1,?_⟩
 rcases h.2 with av|⟨g,cap,cj,a0,D,hg,rest⟩
 ·exact zalad av
 ·exact zalal ⟨g,cap,cj,a0,D,by rw[aa g (cz g (by rw[a0];rfl)) (lt_of_heap hg)];exact hg,rest⟩
mutual
def Nj.later {I:Nat->Prop}{w w':LK}(aa:Pq I w w'):∀ (t:Tr) (p:Nat),Nj I w t p->Nj I w' t p
 | .mk kd tx n ks,p,h=>by
  rw[Nj] at h ⊢;obtain⟨ae,v,ps,D,T,N⟩:=h;exact⟨ae,v,ps,by rw[aa p ae (lt_of_heap D)];exact D,⟨L8 aa T.2 T.1,T.2⟩,LU.later (λb D ab=>aa b D.1 ab) ks ps N⟩
def LU.later {I:Nat->Prop}{w w':LK}(aa:Pq I w w'):∀ (ts:List Tr) (ps:List Nat),LU I w ts ps->LU I w' ts ps
 | [],ps,h=>by rw[LU] at h ⊢;exact h
 | t::ts,ps,h=>by
  rw[LU] at h ⊢;obtain⟨p,d8,M,rfl,E,O⟩:=h;exact⟨p,d8,M,rfl,Nj.later (λb D ab=>aa b D.1 ab) t p E,LU.later (λb D ab=>aa b D.1 ab) ts d8 O⟩
end
def Me {w:LK}{B e sz:Nat}{v:LY}{n:Nat}{bQ:List LY}(h:w.ownsRow B e sz v n bQ)(g:Nat)(hg:v.ownBlock=some g):g<w.heap.size/\B<=g:=by
 rcases h.2 with av|⟨dJ,cap,cj,a0,D,a2,rest⟩
 ·rw[av.1] at hg;cases hg
 ·rw[a0] at hg;cases hg;exact⟨lt_of_heap a2,D⟩
mutual
def Nj.mono {I J:Nat->Prop}{w:LK}(c7:∀ b,I b->b<w.heap.size->J b):∀ (t:Tr) (p:Nat),Nj I w t p->Nj J w t p
 | .mk kd tx n ks,p,h=>by
  rw[Nj] at h ⊢;obtain⟨ae,v,ps,D,T,N⟩:=h;exact⟨c7 p ae (lt_of_heap D),v,ps,D,⟨T.1,λg hg=>c7 g (T.2 g hg) (Me T.1 g hg).1⟩,LU.mono (λb D ab=>⟨c7 b D.1 ab,D.2⟩) ks ps N⟩
def LU.mono {I J:Nat->Prop}{w:LK}(c7:∀ b,I b->b<w.heap.size->J b):∀ (ts:List Tr) (ps:List Nat),LU I w ts ps->LU J w ts ps
 | [],ps,h=>by rw[LU] at h ⊢;exact h
 | t::ts,ps,h=>by
  rw[LU] at h ⊢;obtain⟨p,d8,M,rfl,E,O⟩:=h;exact⟨p,d8,M,rfl,Nj.mono (λb D ab=>⟨c7 b D.1 ab,D.2⟩) t p E,LU.mono (λb D ab=>⟨c7 b D.1 ab,D.2⟩) ts d8 O⟩
end
def LU.parts {I:Nat->Prop}{w:LK}{t:Tr}{ts:List Tr}{ps:List Nat}(h:LU I w (t::ts) ps):∃ p d8,ps=p::d8/\Nj I w t p/\LU I w ts d8:=by
 rw[LU] at h;obtain⟨p,d8,M,e,E,O⟩:=h;exact⟨p,d8,e,Nj.mono (λb D _=>D.1) _ _ E,LU.mono (λb D _=>D.1) _ _ O⟩
def LU.length {I:Nat->Prop}{w:LK}:∀ (ts:List Tr) (ps:List Nat),LU I w ts ps->ps.length=ts.length
 | [],ps,h=>by rw[LU] at h;rw[h];rfl
 | t::ts,ps,h=>by
  obtain⟨p,d8,rfl,E,O⟩:=h.parts;simp[LU.length ts d8 O]
section
variable {I:Nat->Prop} {w:LK}
include I w
def LU.nil:LU I w [] []:=by rw[LU]
def LU.pair {M:Nat}{t u:Tr}{p q:Nat}(h:Nj (λb=>I b/\b<M) w t p)(O:Nj (λb=>I b/\M<=b) w u q):LU I w [t,u] [p,q]:=by
 rw[LU];refine⟨p,[q],M,rfl,h,?_⟩;rw[LU];exact⟨q,[],w.heap.size,rfl,Nj.mono (λ_ D ab=>⟨D,ab⟩) _ _ O,LU.nil⟩
def LU.cons {t:Tr}{p:Nat}(h:Nj I w t p)(_:LU I w [] []):LU I w [t] [p]:=by
 rw[LU];exact⟨p,[],w.heap.size,rfl,Nj.mono (λ_ D ab=>⟨D,ab⟩) _ _ h,LU.nil⟩
end
def LU.append {M:Nat}{w:LK}{ci:List Tr}{bf:List Nat}:∀ (ts:List Tr) (ps:List Nat) {I:Nat->Prop},LU (λb=>I b/\M<=b) w ci bf->LU (λb=>I b/\b<M) w ts ps->LU I w (ts++ci) (ps++bf)
 | [],ps,I,aS,h=>by rw[LU] at h;subst h;exact LU.mono (λb D _=>D.1) _ _ aS
 | t'::ts,ps,I,aS,h=>by
  rw[LU] at h;obtain⟨ia,d8,aR,rfl,E,O⟩:=h
  show LU I w (t'::(ts++ci)) (ia::(d8++bf))
  rw[LU];refine⟨ia,d8++bf,min aR M,rfl,Nj.mono (λb D _=>⟨D.1.1,by have E:=D.1.2;have O:=D.2;omega⟩) _ _ E,LU.append ts d8 (LU.mono (λb D _=>⟨⟨D.1,by have E:=D.2;omega⟩,D.2⟩) _ _ aS) (LU.mono (λb D _=>⟨⟨D.1.1,by have E:=D.2;omega⟩,D.1.2⟩) _ _ O)⟩
def QK (I:Nat->Prop)(w:LK):List Tr->List Nat->Prop
 | [],ps=>ps=[]
 | t::ts,ps=>∃ p d8,ps=p::d8/\Nj I w t p/\QK I w ts d8
def LU.nl {I:Nat->Prop}{w:LK}:∀ (ts:List Tr) (ps:List Nat),LU I w ts ps->QK I w ts ps
 | [],ps,h=>by rw[LU] at h;exact h
 | t::ts,ps,h=>by
  obtain⟨p,d8,rfl,E,O⟩:=h.parts;exact⟨p,d8,rfl,E,LU.nl ts d8 O⟩
def QK.later {I:Nat->Prop}{w w':LK}(aa:Pq I w w'):∀ (ts:List Tr) (ps:List Nat),QK I w ts ps->QK I w' ts ps
 | [],_,h=>h
 | _::ts,_,⟨p,d8,e,E,O⟩=>⟨p,d8,e,Nj.later aa _ p E,QK.later aa ts d8 O⟩
def QK.length {I:Nat->Prop}{w:LK}:∀ (ts:List Tr) (ps:List Nat),QK I w ts ps->ps.length=ts.length
 | [],_,h=>by rw[show _=_ from h];rfl
 | t::ts,ps,h=>by
  obtain⟨p,d8,rfl,E,O⟩:=h;simp[QK.length ts d8 O]
def QK.nil {I:Nat->Prop}{w:LK}:QK I w [] []:=rfl
def QK.cons {I:Nat->Prop}{w:LK}{t:Tr}{p:Nat}{ts:List Tr}{ps:List Nat}(h:Nj I w t p)(O:QK I w ts ps):QK I w (t::ts) (p::ps):=⟨p,ps,rfl,h,O⟩
def QK.append {I:Nat->Prop}{w:LK}{ci:List Tr}{bf:List Nat}(aS:QK I w ci bf):∀ (ts:List Tr) (ps:List Nat),QK I w ts ps->QK I w (ts++ci) (ps++bf)
 | [],ps,h=>by rw[show ps=[] from h];exact aS
 | t'::ts,ps,h=>by
  obtain⟨ia,d8,rfl,E,O⟩:=h;exact QK.cons E (QK.append aS ts d8 O)
def NV (B:Nat)(w:LK)(t:Tr)(v:LY):Prop:=∃ p,v=LC p/\Nj (λb=>B<=b) w t p
def EV (B:Nat)(w:LK)(t:Tr)(v:LY):Prop:=
 ∃ p u ps,v=LC p/\B<=p/\w.heap[p]? = some (MB t.kd t.tx t.n u)/\w.ownsRow B 22 1 u ps.length (ps.map LC)/\u.ownBlock≠some p/\LU (λb=>B<=b/\b≠p/\u.ownBlock≠some b) w t.kids ps
def KV (B:Nat)(w:LK)(ts:List Tr)(v:LY):Prop:=
 ∃ ps,w.ownsRow B 22 1 v ps.length (ps.map LC)/\LU (λb=>B<=b/\v.ownBlock≠some b) w ts ps
def Qr {w:LK}{B e sz:Nat}{v:LY}{n:Nat}{bQ:List LY}(h:w.ownsRow B e sz v n bQ):w.ownsRow 0 e sz v n bQ:=by
 refine⟨h.1,?_⟩
 rcases h.2 with av|⟨g,cap,cj,a0,D,rest⟩
 ·exact zalad av
 ·exact zalal ⟨g,cap,cj,a0,zalae _,rest⟩
def EV.nv {B:Nat}{w:LK}{t:Tr}{v:LY}(h:EV B w t v):NV B w t v:=by
 obtain⟨p,u,ps,rfl,ae,D,T,_,N⟩:=h
 cases t with
 | mk kd tx n ks=>
  refine⟨p,rfl,?_⟩;rw[Nj];exact⟨ae,u,ps,D,⟨Qr T,λg hg=>(Me T g hg).2⟩,LU.mono (λb D _=>⟨D.1,D.2.1⟩) _ _ N⟩
def Pq.Tq {R B:Nat}{I:Nat->Prop}{w w':LK}(h:Ap R w.heap.size w w')(bA:R<B)(cz:∀ b,I b->B<=b):Pq I w w':=λb D ab=>h.block b ab (by have:=cz b D;omega)
def NV.later {R B:Nat}{w w':LK}{t:Tr}{v:LY}(h:NV B w t v)(aa:Ap R w.heap.size w w')(bA:R<B):NV B w' t v:=by
 obtain⟨p,rfl,ae⟩:=h;exact⟨p,rfl,Nj.later (Pq.Tq aa bA λ_ h=>h) _ _ ae⟩
def NV.mono {B B':Nat}{w:LK}{t:Tr}{v:LY}(h:NV B w t v)(bA:B'<=B):NV B' w t v:=by
 obtain⟨p,rfl,ae⟩:=h;exact⟨p,rfl,Nj.mono (λb h _=>zalan bA h) _ _ ae⟩
def EV.later {R B:Nat}{w w':LK}{t:Tr}{v:LY}(h:EV B w t v)(aa:Ap R w.heap.size w w')(bA:R<B):EV B w' t v:=by
 obtain⟨p,u,ps,rfl,ae,D,T,aS,N⟩:=h;exact⟨p,u,ps,rfl,ae,by rw[aa.block p (lt_of_heap D) LM];exact D,L8 (I:=λb=>B<=b) (Pq.Tq aa bA λ_ h=>h) (λg hg=>(Me T g hg).2) T,aS,LU.later (Pq.Tq aa bA λ_ h=>h.1) _ _ N⟩
def EV.mono {B B':Nat}{w:LK}{t:Tr}{v:LY}(h:EV B w t v)(bA:B'<=B):EV B' w t v:=by
 obtain⟨p,u,ps,rfl,ae,D,T,aS,N⟩:=h;refine⟨p,u,ps,rfl,by omega,D,?_,aS,LU.mono (λb h _=>⟨by omega,h.2⟩) _ _ N⟩;refine⟨T.1,?_⟩;exact awS
def KV.later {R B:Nat}{w w':LK}{ts:List Tr}{v:LY}(h:KV B w ts v)(aa:Ap R w.heap.size w w')(bA:R<B):KV B w' ts v:=by
 obtain⟨ps,T,N⟩:=h;exact⟨ps,L8 (I:=λb=>B<=b) (Pq.Tq aa bA λ_ h=>h) (λg hg=>(Me T g hg).2) T,LU.later (Pq.Tq aa bA λ_ h=>h.1) _ _ N⟩
def KV.nil (B:Nat)(w:LK):KV B w [] QJ:=⟨[],⟨rfl,zalad ⟨rfl,rfl⟩⟩,LU.nil⟩
def LP (w:LK)(o:Obj):(w.alloc o).heap[w.heap.size]? = some o:=by simpa using zalgm w o
def EV.new {B:Nat}{w:LK}{ts:List Tr}{v:LY}(h:KV B w ts v)(bA:B<=w.heap.size)(kd:Int)(tx:LW)(n:Int) :
  EV B (w.alloc (MB kd tx n v)) (.mk kd tx n ts) (LC w.heap.size):=by
 obtain⟨ps,T,N⟩:=h;have W:∀ I,Pq I w (w.alloc (MB kd tx n v)):=λI b _ ab=>zalaa w _ b ab;refine⟨w.heap.size,v,ps,rfl,bA,LP _ _,L8 (I:=λ_=>True) (W _) (λ_ _=>trivial) T,λh=>?_,LU.later (W _) _ _ (LU.mono (λb h ab=>⟨h.1,by omega,h.2⟩) _ _ N)⟩;exact absurd (Me T _ h).1 LM
def KV.row {B:Nat}{w:LK}{ts:List Tr}{ps:List Nat}(h:LU (λb=>B<=b) w ts ps)(bA:B<=w.heap.size)(ab:ps.length<=maxLen)(bl:Array LY)(am:bl.toList=ps.map LC) :
  KV B (w.alloc (.cells bl 22)) ts (.slice (some (LD w.heap.size 0)) ps.length ps.length):=by
 have W:∀ I,Pq I w (w.alloc (.cells bl 22)):=λI b _ ab=>zalaa w _ b ab;have b5:bl.size=ps.length:=by rw[<-zalek,am,zalag]
 refine⟨ps,⟨by simp,zalal ⟨w.heap.size,ps.length,bl,rfl,bA,LP _ _,Nh,ab,by omega,?_⟩⟩,LU.later (W _) _ _ (LU.mono (λb h ab=>⟨h,λe=>by simp only[Value.ownBlock,zalbw] at e;omega⟩) _ _ h)⟩
 rw[am];exact zalcv MP
structure Ctx where
 R:Nat
 l:List Tk
 tb:Nat
 cap:Nat
 mS:Nat
 mT:Nat
 mV:Nat
 lo:Nat
def sgV (s:Sg):LY:=.agg #[LQ s.tx,LJ s.kd,LJ s.parts,LJ s.str]
def mkE (e:(LW × LY) × Nat):MapEntry:={ key:=LQ e.1.1,val:=e.1.2,born:=e.2 }
def mapOf (l:List (LW × LY)):Array MapEntry:=((l.zipIdx).map mkE).toArray
def aju:Array MapEntry:=mapOf (YU.map λe=>(e.tx,sgV e))
def TQ (R:Nat)(f:Nat):LY:=.func (.func f) #[Mc R 0] #[]
def asY:Nat->Nat
 | 0=>163
 | 1=>164
 | 2=>165
 | 3=>166
 | 4=>167
 | 5=>168
 | 6=>169
 | _=>170
def ae7:Nat->Nat
 | 0=>171
 | 1=>172
 | _=>173
def ae8 (R:Nat):Array MapEntry:=mapOf (PG.map λe=>(e.1,TQ R (asY e.2)))
def ajv (R:Nat):Array MapEntry:=mapOf (PV.map λe=>(e.1,TQ R (ae7 e.2)))
def Ue:Array LY:=(hds.flatMap λe=>[LQ e.1,LJ e.2]).toArray
def Ctx.tv (c:Ctx):LY:=.slice (some (LD c.tb 0)) c.l.length c.cap
structure Base (c:Ctx)(w:LK):Prop where
 ends:Ends c.l
 tokens:∃ cj,w.heap[c.tb]? = some (NK cj 138)/\c.l.length<=c.cap/\c.cap<=maxLen/\cj.size=c.cap * 4/\cj.toList.take (c.l.length * 4)=OI c.l
 ntb:c.tb≠c.R
 signs:w.heap[c.mS]? = some (.map aju 14)
 nS:c.mS≠c.R
 awT:w.heap[c.mT]? = some (.map (ae8 c.R) 12)
 nT:c.mT≠c.R
 vals:w.heap[c.mV]? = some (.map (ajv c.R) 3)
 nV:c.mV≠c.R
 len:c.l.length<=3001
 heads:∃ t fr,w.heap[3]? = some (.cells Ue t fr)
 nH:3≠c.R
 old:c.tb<c.lo/\c.mS<c.lo/\c.mT<c.lo/\c.mV<c.lo/\3<c.lo/\c.R<c.lo
 size:c.lo<=w.heap.size
def Base.later {c:Ctx}{B:Nat}{w w':LK}(h:Base c w)(aa:Ap c.R B w w')(bA:c.lo<=B):Base c w':=by
 obtain⟨aJ,⟨cj,E,xD⟩,O,ao,aM,bw,h6,h7,dp,dt,⟨t,fr,eL⟩,mP,Gh,ei⟩:=h;exact⟨aJ,⟨cj,by rw[aa.block _ LM O];exact E,xD⟩,O,by rw[aa.block _ LM aM];exact ao,aM,by rw[aa.block _ LM h6];exact bw,h6,by rw[aa.block _ LM dp];exact h7,dp,dt,⟨t,fr,by rw[aa.block _ LM mP];exact eL⟩,mP,Gh,zalan ei aa.size⟩
def awU (c:Ctx)(i d:Nat):Obj:=NK #[c.tv,LJ (i:Int),LJ (d:Int),.map (some c.mS),.map (some c.mT),.map (some c.mV)] 203
structure Ol (c:Ctx)(w:LK)(i d:Nat):Prop where
 base:Base c w
 blk:w.heap[c.R]? = some (awU c i d)
 lt:i<c.l.length
 deep:d<=30
def Ol.later {c:Ctx}{w w':LK}{i d:Nat}(h:Ol c w i d)(aa:LX w w'):Ol c w' i d:=
 ⟨h.base.later (Ap.of aa) h.base.size,by rw[aa.block _ (lt_of_heap h.blk)];exact h.blk,h.lt,h.deep⟩
def Ol.ap {c:Ctx}{B:Nat}{w w':LK}{i d:Nat}(h:Ol c w i d)(aa:Below B w w')(bA:c.lo<=B):Ol c w' i d:=
 ⟨h.base.later (Ap.of aa) bA,by rw[aa.block _ (by have:=h.base.old;omega)];exact h.blk,h.lt,h.deep⟩
def Ol.SB {c:Ctx}{w:LK}{i d:Nat}(h:Ol c w i d):c.R<w.heap.size:=lt_of_heap h.blk
section
variable {w:LK} {b:Nat} {bl:Array LY} {t:TypeId}
include w b bl t
def cell_of {fr:Nat × Nat}(h:w.heap[b]? = some (.cells bl t fr))(o:Nat):w.cell? (LD b o)=bl[o]?:=by
 simp[World.cell?,h]
def Ny (h:w.heap[b]? = some (NK bl t))(o:Nat):w.frozen? (LD b o)=false:=by
 simp[World.frozen?,h]
end
section
variable {c:Ctx} {w:LK} {i d:Nat} (h:Ol c w i d)
include c w i d h
def Ol.c0:w.cell? (LD c.R 0)=some c.tv:=by rw[cell_of h.blk];rfl
def Ol.c1:w.cell? (LD c.R 1)=some (LJ (i:Int)):=by rw[cell_of h.blk];rfl
def Ol.c2:w.cell? (LD c.R 2)=some (LJ (d:Int)):=by rw[cell_of h.blk];rfl
def Ol.c3:w.cell? (LD c.R 3)=some (.map (some c.mS)):=by rw[cell_of h.blk];rfl
def Ol.c4:w.cell? (LD c.R 4)=some (.map (some c.mT)):=by rw[cell_of h.blk];rfl
def Ol.c5:w.cell? (LD c.R 5)=some (.map (some c.mV)):=by rw[cell_of h.blk];rfl
def Ol.fz (o:Nat):w.frozen? (LD c.R o)=false:=Ny h.blk o
end
def heap_set {w:LK}{b o:Nat}{bl:Array LY}{t:TypeId}{fr:Nat × Nat}(h:w.heap[b]? = some (.cells bl t fr))(v:LY) :
  (w.setCell (LD b o) v).heap[b]? = some (.cells (bl.setIfInBounds o v) t fr):=by
 obtain⟨ab,he⟩:=zalbv.1 h;have gx:b<(w.setCell (LD b o) v).heap.size:=by simpa[World.setCell] using ab
 rw[zalbv];refine⟨gx,?_⟩;simp only[World.setCell,Array.getElem_modify_self,he];rfl
section
variable {c:Ctx} {w:LK} {i d:Nat} (h:Ol c w i d)
include c w i d h
def Ol.go (j:Nat)(aT:j<c.l.length):Ol c (w.setCell (LD c.R 1) (LJ (j:Int))) j d:=
 ⟨h.base.later (Ap.setCell (R:=c.R) (Ap.refl _ _ _) (p:=(LD c.R 1)) (zalal rfl) _) h.base.size,by rw[heap_set h.blk];rfl,aT,h.deep⟩
def Ol.aFr (e:Nat)(he:e<=30):Ol c (w.setCell (LD c.R 2) (LJ (e:Int))) i e:=
 ⟨h.base.later (Ap.setCell (R:=c.R) (Ap.refl _ _ _) (p:=(LD c.R 2)) (zalal rfl) _) h.base.size,by rw[heap_set h.blk];rfl,h.lt,he⟩
end
def YV (er:Int)(p:Nat):List PanicEntry:=[{ v:=.iface 142 (.agg #[LJ er,LJ (p:Int)]),recovered:=false }]
def OV {α:Type}(c:Ctx)(w:LK)(d:Nat)(V:LK->α->LY->Prop)(r:PR α)(e:Ending)(w':LK):Prop:=
 match r with
 | .ok x j=>(∃ v,e=MN v/\V w' x v)/\Ol c w' j d/\Ap c.R w.heap.size w w'
 | .bad er p=>e=.panicked (YV er p)/\Ap c.R w.heap.size w w'
 | .out=>True
def Wv {a b:LW}(h:a≠b):(a.toList==b.toList)=false:=by
 rw[zalaj,zaldf,zaldf];exact λe=>h (Go.WideShapes.bytes_inj e)
def agU {a b:LW}(h:a=b):(a.toList==b.toList)=true:=by rw[h];exact beq_self_eq_true _
section
variable {a b:LW} {l:List UInt8} (ab:b.data.toList=l)
include a b l ab
def RY (h:a≠b):(a.toList==l)=false:=by
 rw[<-ab,<-zaldf];exact Wv h
def RX (h:a=b):(a.toList==l)=true:=by
 rw[<-ab,<-zaldf];exact agU h
end
def tkV (t:Tk):LY:=.agg #[LJ t.kd,LQ t.tx,LJ t.n,LJ (t.pl:Int)]
abbrev Nz (c:Ctx):LY:=Mc c.R 0
def ajN:∀ (l:List Tk) (i j:Nat),i<l.length->j<4->(OI l)[i * 4+j]? =(Uf (MJ l i))[j]?
 | [],i,j,h,_=>absurd h MP
 | t::l,0,j,_,aT=>by
  simp only[OI,List.flatMap_cons,MJ,zalgt,Nat.zero_mul,zalda];rw[zalfm (by simp[Uf];omega)]
 | t::l,i+1,j,h,aT=>by
  have aU:=ajN l i j (by simpa using h) aT;simp only[OI,List.flatMap_cons,MJ,List.getD_cons_succ] at aU ⊢;rw[zalds (by simp[Uf];omega)]
  rw[show (i+1) * 4+j - (Uf t).length=i * 4+j by simp[Uf];omega]
  exact aU
def Base.tok {c:Ctx}{w:LK}(h:Base c w)(i j:Nat)(ak:i<c.l.length)(aT:j<4):w.cell? (LD c.tb (i * 4+j))=(Uf (MJ c.l i))[j]?:=ayZ
def Base.tlt {c:Ctx}{w:LK}(h:Base c w):c.tb<w.heap.size:=by
 obtain⟨cj,D,_⟩:=h.tokens;exact lt_of_heap D
def QC (c:Ctx)(w:LK)(i d:Nat)(h:Ol c w i d) :
  MC 174 #[Nz c] w λe w'=>e=MN (tkV (MJ c.l i))/\LX w w':=by
 have aJ:w.cell? (LD c.R 0)=some (.slice (some (LD c.tb 0)) c.l.length c.cap):=h.c0;have E:=h.c1;have a7:=h.SB;have ce:=h.base.tlt;have aC:(i:Int)<(c.l.length:Int):=by have:=h.lt;omega
 have k0:w.cell? (LD c.tb (i * 4))=some (LJ (MJ c.l i).kd):=h.base.tok i 0 h.lt MK;have a9:w.cell? (LD c.tb (i * 4+1))=some (LQ (MJ c.l i).tx):=h.base.tok i 1 h.lt MK;have bD:w.cell? (LD c.tb (i * 4+2))=some (LJ (MJ c.l i).n):=h.base.tok i 2 h.lt MK;have b8:w.cell? (LD c.tb (i * 4+3))=some (LJ ((MJ c.l i).pl:Int)):=h.base.tok i 3 h.lt MK;clear h;go_enter func174,ntmps174;go_wp2_with fail
 go_region
 go_wp2_with fail;exact zalcs (v:=tkV (MJ c.l i)) (by simp[results,results174,go_sem,tkV]) rfl ⟨rfl,Qn.drew⟩
def akd {a b:LW}(h:a=b):Ending.returned (LQ a)=MN (LQ b):=by rw[h]
def QD (c:Ctx)(w:LK)(i d:Nat)(h:Ol c w i d) :
  MC 240 #[Nz c] w λe w'=>e=MN (LQ (fx c.l i))/\LX w w':=by
 have dQ:=hide (QC c w i d h);clear h
 cases O:(MJ c.l i).kd==2
 ·
  cases bw:(MJ c.l i).kd==5
  all_goals
   go_enter func240,ntmps240;go_wp2_with fail;refine cm dQ.out ?_;rintro e w1 ⟨rfl,D⟩;have aV:=hide D;unfold tkV;go_wp2;go_ret;exact⟨akd (by simp[fx,O,bw]),aV.out.alloc aV.out.size _⟩
 ·go_enter func240,ntmps240;have A{G}(h:G:=by
  unfold tkV;go_wp2;go_ret;exact⟨akd (by simp[fx,O]),aV.out.alloc aV.out.size _⟩):=LG h;exact an7
section
variable {α:Type} {c:Ctx} {w w':LK} {d:Nat} {V:LK->α->LY->Prop} {r:PR α}
include α c w w' d V r
def O3 {er:Int}{p:Nat}(T:r=.bad er p)(aa:Ap c.R w.heap.size w w') :
  OV c w d V r (.panicked (YV er p)) w':=by rw[T];exact⟨rfl,aa⟩
def RF {x:α}{j:Nat}{v:LY}(T:r=.ok x j)(a0:V w' x v)(aD:Ol c w' j d)(aa:Ap c.R w.heap.size w w') :
  OV c w d V r (MN v) w':=by rw[T];exact⟨⟨v,rfl,a0⟩,aD,aa⟩
end
def abp (c:Ctx)(er:Int)(t:Tk)(w:LK) :
  MC 280 #[Nz c,LJ er,tkV t] w λe w'=>e=.panicked (YV er t.pl)/\LX w w':=by
 unfold tkV;go_enter func280,ntmps280;go_wp2_with fail;exact⟨rfl,rfl,Qn⟩
def UE (c:Ctx)(er:Int)(w:LK)(i d:Nat)(h:Ol c w i d) :
  MC 241 #[Nz c,LJ er] w λe w'=>e=.panicked (YV er (MJ c.l i).pl)/\LX w w':=by
 have dQ:=hide (QC c w i d h);go_enter func241,ntmps241;have A{G}(h:G:=by
 have bN:=hide (abp c er (MJ c.l i) w1);go_wp2_with fail;refine Y5 ?_;rintro e w2 ⟨rfl,a5⟩;exact⟨rfl,rfl,aV.out.trans (a5.mono aV.out.size)⟩):=LG h;exact an7
def Ol.go2 {c:Ctx}{w:LK}{i d:Nat}(h:Ol c w i d)(j:Nat)(aT:j<c.l.length){v:Int}(a0:v=(j:Int)):Ol c (w.setCell (LD c.R 1) (LJ v)) j d:=by
 subst a0;exact h.go j aT
def YH {c:Ctx}{w w1:LK}(D:LX w w1)(v:LY)(o:Nat):Ap c.R w.heap.size w (w1.setCell (LD c.R o) v):=
 Ap.setCell (R:=c.R) (Ap.of D) (p:=(LD c.R o)) (zalal rfl) _
section
variable (c:Ctx) (s:LW) (w:LK) (i d:Nat) (h:Ol c w i d)
include c s w i d h
def RD (W:fx c.l i=s)(av:s≠LH) :
  MC 242 #[Nz c,LQ s] w λe w'=>e=MN (L9 true)/\Ol c w' (i+1) d/\Ap c.R w.heap.size w w':=by
 have dQ:=hide (QD c w i d h);have bo:=hide h;have ak:i+1<c.l.length:=Sj h.base.ends h.lt W av;have bm:=h.base.len;subst W;clear h av;go_enter func242,ntmps242;have A{G}(h:G:=by
 have cd:=hide (bo.out.later D);have E:=cd.out.c1;have b5:=cd.out.fz;go_wp2;go_ret;exact⟨rfl,cd.out.go2 (i+1) ak LM,YH aV.out _ _⟩):=LG h;exact an7
def Sr (W:fx c.l i≠s) :
  MC 242 #[Nz c,LQ s] w λe w'=>e=MN (L9 false)/\LX w w':=by
 have dQ:=hide (QD c w i d h);have eB:=Wv W;clear W;go_enter func242,ntmps242;go_wp2_with fail;refine cm dQ.out ?_;exact atM
end
abbrev UV:LK->Unit->LY->Prop:=λ_ _ v=>v=.tuple #[]
def NR (c:Ctx)(s:LW)(w:LK)(i d:Nat)(h:Ol c w i d)(av:s≠LH) :
  MC 244 #[Nz c,LQ s] w (OV c w d UV (MG c.l s i)):=by
 by_cases W:fx c.l i=s
 ·have dQ:=hide (RD c s w i d h W av);have aA:MG c.l s i=.ok () (i+1):=by unfold MG;rw[zalak W]
  rw[aA];clear av W aA;go_enter func244,ntmps244;go_wp2_with fail;refine cm dQ.out ?_;rintro e w1 ⟨rfl,T,aa⟩;have bo:=hide T;have bS:=hide aa;go_wp2
  go_end0
  exact RF rfl rfl bo.out bS.out
 ·have dQ:=hide (Sr c s w i d h W);have aA:MG c.l s i=.bad 3 (MJ c.l i).pl:=by unfold MG;rw[zalah W];rfl
  rw[aA];have bo:=hide h;clear av W aA;go_enter func244,ntmps244;go_wp2_with fail;refine cm dQ.out ?_;exact ayC
def ad3 (t:Tk)(L:LK):(Instr.field 138 (.agg #[LJ t.kd,LQ t.tx,LJ t.n,LJ (t.pl:Int)]) 0).run prog L=.ok (LJ t.kd) L:=by kernel_rfl
def akg (t:Tk)(L:LK):(Instr.field 138 (.agg #[LJ t.kd,LQ t.tx,LJ t.n,LJ (t.pl:Int)]) 1).run prog L=.ok (LQ t.tx) L:=by kernel_rfl
def Ya (c:Ctx)(w:LK)(i d:Nat)(h:Ol c w i d) :
  MC 247 #[Nz c] w λe w'=>e=MN (L9 (isName c.l i))/\LX w w':=by
 have dQ:=hide (QC c w i d h);go_enter func247,ntmps247;have A{G}(h:G:=by
 have fC:=ad3 (MJ c.l i);unfold tkV;go_wp2;go_ret;exact⟨rfl,aV.out⟩):=LG h;exact an7
abbrev SV:LK->LW->LY->Prop:=λ_ s v=>v=LQ s
def name_any (c:Ctx)(w:LK)(i d:Nat)(h:Ol c w i d) :
  MC 239 #[Nz c] w (OV c w d SV (nameP c.l i)):=by
 have b3:=hide (Ya c w i d h)
 by_cases W:(MJ c.l i).kd=1
 ·have aA:nameP c.l i=.ok (MJ c.l i).tx (i+1):=by unfold nameP;rw[zalak W]
  have ak:i+1<c.l.length:=Q8 h.base.ends h.lt (by rw[W];decide)
  have bm:=h.base.len;have N:isName c.l i=true:=by unfold isName;rw[W];rfl
  rw[aA];rw[N] at b3;have bo:=hide h;clear h W aA N;go_enter func239,ntmps239;go_wp2_with fail;refine cm b3.out ?_;rintro e w1 ⟨rfl,D⟩;have aV:=hide D;have cd:=hide (bo.out.later D);have dQ:=hide (QC c w1 i d cd.out);go_wp2_with fail;refine cm dQ.out ?_;have A{G}(h:G:=by
  have fC:=akg (MJ c.l i);unfold tkV;go_wp2;go_ret;exact RF rfl rfl (bX.out.go2 (i+1) ak LM) (YH bj.out _ _)):=LG h;exact aCk
 ·have aA:nameP c.l i=.bad 3 (MJ c.l i).pl:=by unfold nameP;rw[zalah W];rfl
  have N:isName c.l i=false:=by unfold isName;exact zalaj.2 W
  rw[aA];rw[N] at b3;have bo:=hide h;clear h W aA N;go_enter func239,ntmps239;go_wp2_with fail;refine cm b3.out ?_;exact ayC
def Oi (kd:Int)(tx:LW)(v:LY)(w:LK)(a0:∃ a n cap,v=.slice a n cap) :
  MC 178 #[LJ kd,LQ tx,v] w λe w'=>e=MN (LC w.heap.size)/\w'=w.alloc (MB kd tx 0 v):=by
 obtain⟨a,n,cap,rfl⟩:=a0;go_enter func178,ntmps178;go_wp2;go_ret;exact⟨rfl,rfl⟩
def alY (a b:LW):(a==b)=decide (a=b):=by
 by_cases h:a=b
 ·subst h;rw[zalaz rfl]
  cases a with
  | mk a=>
   show (a==a)=true
   exact beq_self_eq_true _
 ·rw[zalaw h]
  cases a with
  | mk a=>cases b with
   | mk b=>
    show (a==b)=false
    rw[zalaj];exact λe=>h (by rw[e])
def Zf (s:LW):∀ (l:List (LW × LY)) (n i:Nat),
  ∃ o,Instr.findNow .string (LQ s) ((l.zipIdx n).map mkE) i=some o/\o.map (·.2)=(l.find? (λe=>decide (s=e.1))).map (·.2)
 | [],n,i=>⟨none,rfl,rfl⟩
 | e::l,n,i=>by
  simp only[zalfz,zalbb,Instr.findNow,mkE,Instr.sameNow,alY,zalck]
  cases h:decide (s=e.1)
  ·simp only;exact Zf s l (n+1) (i+1)
  ·exact⟨some (i,e.2),rfl,rfl⟩
def X5 (cE fF:TypeId)(m k:Nat)(l:List (LW × LY))(s:LW)(z:LY)(L:LK)(ce:prog.underlying cE=some (.map 9 fF))(aA:L.heap[m]? = some (.map (mapOf l) k))(b5:(zeroValue fF).run prog L=.ok z L) :
  (Instr.lookup cE (.map (some m)) (LQ s) true).run prog L=.ok (.tuple #[((l.find? (λe=>decide (s=e.1))).map (·.2)).getD z,L9 (l.find? (λe=>decide (s=e.1))).isSome]) L:=aDV
def aiq:LY:=.agg #[U7,LJ 0,LJ 0,LJ 0]
def ad4 (o:Option Sg):LY:=match o with|some s=>sgV s|none=>aiq
def V6 (c:Ctx)(s:LW)(L:LK)(h:L.heap[c.mS]? = some (.map aju 14)) :
  (Instr.lookup 199 (.map (some c.mS)) (LQ s) true).run prog L=.ok (.tuple #[ad4 (Xx s),L9 (Xx s).isSome]) L:=by
 rw[X5 199 189 c.mS 14 _ s aiq L underlying199 h Nw];unfold Xx;rw[zalfk];simp only[zalex]
 cases YU.find? (λe=>decide (s=e.tx)) <;> rfl
def aEm (R:Nat)(o:Option Nat):LY:=match o with|some q=>TQ R (asY q)|none=>.nilFunc
def aEn (R:Nat)(o:Option Nat):LY:=match o with|some q=>TQ R (ae7 q)|none=>.nilFunc
def acY (c:Ctx)(s:LW)(L:LK)(h:L.heap[c.mT]? = some (.map (ae8 c.R) 12)) :
  (Instr.lookup 201 (.map (some c.mT)) (LQ s) true).run prog L=.ok (.tuple #[aEm c.R (Np PG s),L9 (Np PG s).isSome]) L:=by
 rw[X5 201 261 c.mT 12 _ s .nilFunc L zalch h Nw];unfold Np;rw[zalfk];simp only[zalex]
 cases PG.find? (λe=>decide (s=e.1)) <;> rfl
def acX (c:Ctx)(s:LW)(L:LK)(h:L.heap[c.mV]? = some (.map (ajv c.R) 3)) :
  (Instr.lookup 201 (.map (some c.mV)) (LQ s) true).run prog L=.ok (.tuple #[aEn c.R (Np PV s),L9 (Np PV s).isSome]) L:=by
 rw[X5 201 261 c.mV 3 _ s .nilFunc L zalch h Nw];unfold Np;rw[zalfk];simp only[zalex]
 cases PV.find? (λe=>decide (s=e.1)) <;> rfl
def avR:Ue.size=16:=by decide +kernel
def aEO (k:Nat)(N:k<8)(L:LK):(Instr.index 194 (.agg Ue) (LJ (k:Int))).run prog L=.ok (.agg #[LQ (hds.getD k (LH,0)).1,LJ (hds.getD k (LH,0)).2]) L:=by
 have h:k=0\/k=1\/k=2\/k=3\/k=4\/k=5\/k=6\/k=7:=LM
 rcases h with rfl|rfl|rfl|rfl|rfl|rfl|rfl|rfl <;> (show _=_;kernel_rfl)
def avS {s:LW}{j:Nat}(aT:j<8)(aJ:∀ q,q<j->s≠(hds.getD q (LH,0)).1)(h:s=(hds.getD j (LH,0)).1):Oq s=(hds.getD j (LH,0)).2:=by
 have key:∀ (l:List (LW × Int)) (j:Nat),j<l.length->(∀ q,q<j->s≠(l.getD q (LH,0)).1)->s=(l.getD j (LH,0)).1->(Np l s).getD 0=(l.getD j (LH,0)).2:=by
  intro l
  induction l with
  | nil=>intro j aT;exact absurd aT MP
  | cons e l aU=>
   intro j aT aJ h;unfold Np;rw[zalck]
   cases j with
   | zero=>
    simp only[zalgt] at h ⊢;rw[zalaz h];rfl
   | succ j=>
    have:=aJ 0 LM;simp only[zalgt] at this;rw[zalaw this];exact aU j (by simpa using aT) (λq ac=>by simpa using aJ (q+1) LM) (by simpa using h)
 exact key hds j (by simpa[hds] using aT) aJ h
def arT {s:LW}(aJ:∀ q,q<8->s≠(hds.getD q (LH,0)).1):Oq s=0:=by
 unfold Oq Np;have:hds.find? (λe=>decide (s=e.1))=none:=by
  rw[zalet];intro e he;obtain⟨q,ac,rfl⟩:=zalgs he;have HD:q<8:=by simpa[hds] using ac
  have:=aJ q HD;rw[zalay,zalai ac] at this;simpa using this
 rw[this];rfl
def aew (s:LW)(w:LK)(t:TypeId)(fr:Nat × Nat)(hg:w.heap[3]? = some (.cells Ue t fr)) :
  MC 279 #[LQ s] w λe w'=>e=MN (LJ (Oq s))/\LX w w':=by
 have f3:=hide hg;obtain⟨bl,f7⟩:∃ bl,bl=Ue:=⟨_,rfl⟩;have ki:∀ k:Nat,k<8->∀ L,(Instr.index 194 (.agg bl) (LJ (k:Int))).run prog L=.ok (.agg #[LQ (hds.getD k (LH,0)).1,LJ (hds.getD k (LH,0)).2]) L:=by rw[f7];exact aEO
 have bK:bl.size=16:=by rw[f7];exact avR
 rw[<-f7] at f3;have l7:=hide ki;have p9:=hide bK;clear hg ki f7 bK;go_enter func279,ntmps279
 go_wp2_with (refine zalgh rfl 194 _ rfl 3 rfl t bl fr _ f3.out underlying194 rfl (by rw[p9.out];kernel_rfl) ?_)
 go_loopw [6] (λi wr=>∃ j:Nat,j<=8/\i=LJ j/\(∀ q,q<j->s≠(hds.getD q (LH,0)).1)/\LX w wr) (λi _=>8 - (intOf i).toNat)
 case atStart=>exact⟨0,zalae _,rfl,λq ac=>absurd ac (zalep _),O4⟩
 case round=>
  obtain⟨j,aT,rfl,he,hbel⟩:=hrel;have cG:=hide he;have aV:=hide hbel;clear he
  by_cases aC:j<8
  ·have dU:=Lu l7 j aC;obtain⟨g,hg⟩:∃ g,g=(hds.getD j (LH,0)).1:=⟨_,rfl⟩;obtain⟨n,av⟩:∃ n,n=(hds.getD j (LH,0)).2:=⟨_,rfl⟩;rw[<-hg,<-av] at dU;have sE:=hide hg;have EC:=hide av;clear hg av
   by_cases ae:g=s
   ·have D:=agU ae;have bk:=hide ae;clear ae;go_wp2;go_ret;refine⟨aaq ?_,aV.out.alloc aV.out.size _⟩;rw[avS aC cG.out (by rw[<-sE.out];exact bk.out.symm),EC.out]
   ·have D:=Wv ae;have bk:=hide ae;clear ae;go_wp2
    go_roundw
    case rel=>exact⟨j+1,by omega,by go_num,λq ac=>by (by_cases yY:q=j);(rw[yY,<-sE.out];exact λe=>Lu bk e.symm);exact Lu cG q LM,aV.out.alloc aV.out.size _⟩
    case measure=>simp[intOf];omega
  ·go_wp2;go_ret;exact⟨aaq (arT (λq ac=>Lu cG q LM)).symm,aV.out⟩
def af8 (c:Ctx)(w:LK)(i d:Nat)(h:Ol c w i d)(N:(MJ c.l i).kd≠6) :
  MC 238 #[Nz c] w λe w'=>e=MN (LJ (Oq (MJ c.l i).tx))/\Ol c w' (i+1) d/\Ap c.R w.heap.size w w':=by
 have dQ:=hide (QC c w i d h);have ak:i+1<c.l.length:=Q8 h.base.ends h.lt N;have bm:=h.base.len;have bo:=hide h;clear h N;go_enter func238,ntmps238;have A{G}(h:G:=by
 have cd:=hide (bo.out.later D);obtain⟨t,fr,aM⟩:=cd.out.base.heads;have dN:=hide (aew (MJ c.l i).tx w1 t fr aM);have fC:=akg (MJ c.l i);clear aM;unfold tkV;go_wp2_with fail;refine cm dN.out ?_;have A{G}(h:G:=by
 go_wp2;go_ret;exact⟨rfl,bX.out.go2 (i+1) ak LM,YH bj.out _ _⟩):=LG h;exact aCk):=LG h;exact an7
def Does (c:Ctx)(f:Nat)(V:Nat->LK->Tr->LY->Prop)(lc:Nat->Nat->PR Tr):Prop:=
 ∀ w d i r,lc d i=r->r≠.out->Ol c w i d->MC f #[Nz c] w (OV c w d (V w.heap.size) r)
def Po (R f:Nat)(L:LK):(Instr.makeFunc (.func f) #[Mc R 0] #[]).run prog L=.ok (TQ R f) L:=rfl
def Ol.asF {c:Ctx}{w:LK}{i d:Nat}(h:Ol c w i d)(e:Nat)(he:e<=30){v:Int}(a0:v=(e:Int)):Ol c (w.setCell (LD c.R 2) (LJ v)) i e:=by
 subst a0;exact h.aFr e he
def Yc (c:Ctx)(f:Nat)(lc:Nat->Nat->PR Tr)(an:Does c f NV lc)(fW:TM f)
  (w:LK) (d i:Nat) (r:PR Tr) (T:MO c.l lc d i=r) (ay:r≠.out) (h:Ol c w i d):MC 175 #[Nz c,TQ c.R f] w (OV c w d (NV w.heap.size) r):=by
 have bo:=hide h;have O:=h.c2;have b5:=h.fz;have aD:=h.deep
 by_cases hc:d=30
 ·have bN:=hide (UE c 4 w i d h);subst hc;unfold MO at T;rw[zalak rfl] at T;have aF:=hide T;clear T h ay fW aD;go_enter func175,ntmps175;go_wp2_with fail;refine Y5 ?_;rintro e w1 ⟨rfl,D⟩;exact⟨rfl,O3 aF.out.symm (Ap.of D)⟩
 ·unfold MO at T;rw[zalah hc] at T;have JR:((d:Int)==30)=false:=zalaj.2 LM;have ag:Hid _:=an (w.setCell (LD c.R 2) (LJ ((d:Int)+1))) (d+1) i r T ay (h.asF (d+1) LM LM);have bb:=hide ay;clear T h ay;unfold TQ;go_enter func175,ntmps175;go_wp2_with fail;refine NJ ?_;intro e w1 ae
  cases r with
  | out=>exact absurd rfl bb.out
  | bad er p=>
   obtain⟨rfl,aa⟩:=ae;refine⟨rfl,O3 rfl ?_⟩;exact(YH (c:=c) (zalbd _ w) _ 2).trans (by simpa using aa)
  | ok x j=>
   obtain⟨⟨v,rfl,a0⟩,aY,aa⟩:=ae;have eh:=hide a0;have cd:=hide aY;have bS:=hide ((YH (c:=c) (zalbd _ w) (LJ ((d:Int)+1)) 2).trans (by simpa using aa));have dn:=aY.c2;have JJ:=aY.fz;clear b5 O;go_wp2;go_ret;have bR:=λv=>bS.out.trans (Ap.setCell (R:=c.R) (B:=w.heap.size) (Ap.refl _ _ _) (p:=(LD c.R 2)) (zalal rfl) v);have aC:=bo.out.SB;refine RF rfl ?_ (cd.out.asF d aD LM) (bR _);exact NV.later (R:=c.R) (by simpa using eh.out) (Ap.setCell (R:=c.R) (Ap.refl _ _ _) (p:=(LD c.R 2)) (zalal rfl) _) aC
def OB {w:LK}{B:Nat}{u:LY}{ps:List Nat}(h:w.ownsRow B 22 1 u ps.length (ps.map LC))(d':0<ps.length) :
  ∃ g cap,u=.slice (some (LD g 0)) ps.length cap/\∀ j,(aT:j<ps.length)->w.cell? (LD g j)=some (LC ps[j]):=by
 rcases h.2 with av|⟨g,cap,cj,a0,D,hg,E,O,ao,aM⟩
 ·omega
 ·refine⟨g,cap,a0,λj aT=>?_⟩;rw[cell_of hg,<-Array.getElem?_toList];have:(cj.toList.take (ps.length * 1))[j]? =(ps.map LC)[j]?:=by rw[aM]
  rw[zalfo LM] at this;rw[this,zalbx,zalai aT];rfl
def NH {w:LK}{B:Nat}{u:LY}{n:Nat}{bQ:List LY}(h:w.ownsRow B 22 1 u n bQ):∃ a cap,u=.slice a n cap:=by
 rcases h.2 with av|⟨g,cap,cj,a0,_⟩
 ·exact⟨none,0,by rw[av.1,av.2]⟩
 ·exact⟨_,cap,a0⟩
def Wq {t:Tr}(h:∀ a9 r bD e8,t.kids=a9::r->a9.kids=bD::e8->a9.kd=15->bD.kd=18->bD.tx≠Z9):Qg t=t:=by
 unfold Qg
 split
 ·rename_i kd tx n a9 ky e1 bD gl e2 l2 e8 r
  rw[zalah];rintro⟨a,b,e⟩;exact h _ _ _ _ rfl rfl a b e
 ·rfl
def aex {t a9 bD:Tr}{r e8:List Tr}(E:t.kids=a9::r)(O:a9.kids=bD::e8)(ao:a9.kd=15)(aM:bD.kd=18)(bw:bD.tx=Z9):Qg t=.mk t.kd Nq t.n t.kids:=by
 cases t with
 | mk kd tx n ks=>
  simp only[Tr.kids] at E;subst E
  cases a9 with
  | mk a b c eQ=>
   simp only[Tr.kids] at O;subst O
   cases bD with
   | mk fS a' c2 d2=>
    simp only[Tr.kd,Tr.tx] at ao aM bw;simp only[Qg,Tr.kd,Tr.n,Tr.kids];rw[zalak ⟨ao,aM,bw⟩]
def EV.text {B:Nat}{w:LK}{t:Tr}{p:Nat}(h:EV B w t (LC p))(s:LW):EV B (w.setCell (LD p 1) (LQ s)) (.mk t.kd s t.n t.kids) (LC p):=by
 obtain⟨ia,u,ps,he,ae,D,T,aS,N⟩:=h;have:ia=p:=by simpa[LC] using he.symm
 subst this;have W:∀ b,b≠ia->(w.setCell (LD ia 1) (LQ s)).heap[b]? = w.heap[b]?:=λb D=>zalap w (LD ia 1) _ b D;refine⟨ia,u,ps,rfl,ae,by rw[heap_set D];rfl,?_,aS,LU.later (λb h _=>W b h.2.1) _ _ N⟩
 exact L8 (I:=λb=>b≠ia) (λb h _=>W b h) (λg hg e=>aS (by rw[hg,e])) T
def node_cells {w:LK}{p:Nat}{kd n:Int}{tx:LW}{u:LY}(h:w.heap[p]? = some (MB kd tx n u)) :
  w.cell? (LD p 0)=some (LJ kd)/\w.cell? (LD p 1)=some (LQ tx)/\w.cell? (LD p 2)=some (LJ n)/\w.cell? (LD p 3)=some u/\(∀ o,w.frozen? (LD p o)=false):=
 ⟨by rw[cell_of h];rfl,by rw[cell_of h];rfl,by rw[cell_of h];rfl,by rw[cell_of h];rfl,Ny h⟩
section
variable {I:Nat->Prop} {w:LK} {t:Tr}
include I w t
def Nj.opens {p:Nat}(h:Nj I w t p):∃ u ps,w.heap[p]? = some (MB t.kd t.tx t.n u)/\w.ownsRow 0 22 1 u ps.length (ps.map LC)/\LU I w t.kids ps:=by
 cases t with
 | mk kd tx n ks=>
  rw[Nj] at h;obtain⟨_,u,ps,E,O,ao⟩:=h;exact⟨u,ps,E,O.1,LU.mono (λb D _=>D.1) _ _ ao⟩
def LU.head {ts:List Tr}{ps:List Nat}(h:LU I w (t::ts) ps):∃ p d8,ps=p::d8/\Nj I w t p:=by
 obtain⟨p,d8,e,E,_⟩:=h.parts;exact⟨p,d8,e,E⟩
end
def aoG (t:Tr):Prop:=∀ a9 r,t.kids=a9::r->a9.kd=15->∃ bD e8,a9.kids=bD::e8
def aa1 (B:Nat)(t:Tr)(v:LY)(w:LK)(h:EV B w t v)(he:aoG t) :
  MC 177 #[v] w λe w'=>e=MN v/\EV B w' (Qg t) v/\Below B w w':=by
 have cG:=hide h;obtain⟨p,u,ps,rfl,ae,D,T,aS,N⟩:=h;obtain⟨_,_,_,dR,fz⟩:=node_cells D;have bk:=hide ae;have hlen:=LU.length _ _ N
 cases bd:t.kids with
 | nil=>
  rw[bd] at hlen;have aJ:ps.length=0:=hlen;obtain⟨a,cap,jj⟩:=NH T;rw[aJ] at jj;subst jj;have ag:=hide (Wq (t:=t) (λa9 r bD e8 e=>by rw[bd] at e;cases e))
  clear D aS hlen bd aJ ae fz;exact aru
 | cons a9 r=>
  rw[bd] at hlen N;have aJ:0<ps.length:=by rw[hlen];simp
  obtain⟨g,cap,jj,hcell⟩:=OB T aJ;subst jj;obtain⟨ep,f9,cF,eH⟩:=LU.head N;have c0:w.cell? (LD g 0)=some (LC ep):=by
   rw[hcell 0 aJ];simp[cF]
  obtain⟨u1,bf,bz,g4,hl⟩:=eH.opens;obtain⟨By,_,_,JC,_⟩:=node_cells bz;have JN:(0:Int)<(ps.length:Int):=LM
  by_cases eX:a9.kd=15
  ·obtain⟨bD,e8,cq⟩:=he a9 r bd eX;rw[cq] at hl;have hlen1:=LU.length _ _ hl;have BE:0<bf.length:=by rw[hlen1];simp
   obtain⟨fc,cap1,HU,hcell1⟩:=OB g4 BE;subst HU;obtain⟨iC,K0,vY,gy⟩:=LU.head hl;have ct:w.cell? (LD fc 0)=some (LC iC):=by
    rw[hcell1 0 BE];simp[vY]
   obtain⟨u2,sp,a5,_,_⟩:=gy.opens;obtain⟨JD,JE,_,_,_⟩:=node_cells a5;have JK:(0:Int)<(bf.length:Int):=LM;have Bb:(a9.kd==15)=true:=zalbz.2 eX
   by_cases jT:bD.kd=18
   ·have Bc:(bD.kd==18)=true:=zalbz.2 jT
    by_cases jj:bD.tx=Z9
    ·have ag:=hide (aex bd cq eX jT jj);have xp:(bD.tx.toList==[117,115,101,32,115,116,114,105,99,116])=true:=RX (b:=Z9) rfl jj;clear D aS hlen bd ae bz a5 hcell hcell1 hlen1 cq eX jT jj cF vY;go_enter func177,ntmps177;go_wp2;go_ret;exact⟨rfl,by rw[ag.out];exact cG.out.text _,O4.setCell (p:=(LD p 1)) bk.out _⟩
    ·have ag:=hide (Wq (t:=t) (λfM pz fS Dv aW a4 _ _ e=>by rw[bd] at aW;cases aW;rw[cq] at a4;cases a4;exact jj e))
     have xp:(bD.tx.toList==[117,115,101,32,115,116,114,105,99,116])=false:=RY (b:=Z9) rfl jj;clear D aS hlen bd ae bz a5 hcell hcell1 hlen1 cq eX jT jj cF vY;exact aru
   ·have Bc:(bD.kd==18)=false:=zalaj.2 jT;have ag:=hide (Wq (t:=t) (λfM pz fS Dv aW a4 _ e=>by rw[bd] at aW;cases aW;rw[cq] at a4;cases a4;exact absurd e jT))
    clear D aS hlen bd ae bz a5 hcell hcell1 hlen1 cq eX jT cF vY;exact aru
  ·have Bb:(a9.kd==15)=false:=zalaj.2 eX;have ag:=hide (Wq (t:=t) (λfM pz fS Dv aW _ e=>by rw[bd] at aW;cases aW;exact absurd e eX))
   clear D aS hlen bd ae bz hcell eX cF;exact aru
section
variable {c:Ctx} {w:LK} {i d:Nat} (h:Ol c w i d)
include c w i d h
def Ol.drew:Ol c w.drew i d:=h.later O4.drew
def Ol.alloc (o:Obj):Ol c (w.alloc o) i d:=h.later Qn
end
abbrev Ri:Obj:=.cells #[U7,LJ 0,LJ 0,LJ 0] 189
def aED {w:LK}{b:Nat}{s' fM fS en:LY}{t:TypeId}{fr:Nat × Nat}(h:w.heap[b]? = some (.cells #[s',fM,fS,en] t fr))(v0 v1 v2 v3:LY) :
  ((((w.setCell (LD b 0) v0).setCell (LD b 1) v1).setCell (LD b 2) v2).setCell (LD b 3) v3).heap[b]? = some (.cells #[v0,v1,v2,v3] t fr):=by
 rw[heap_set (heap_set (heap_set (heap_set h v0) v1) v2) v3];rfl
def aiS (b:Nat)(w1:LK)(v0 v1 v2 v3:LY):Prop:=
 w1.cell? (LD b 0)=some v0/\w1.cell? (LD b 1)=some v1/\w1.cell? (LD b 2)=some v2/\w1.cell? (LD b 3)=some v3/\(∀ o,w1.frozen? (LD b o)=false)/\b<w1.heap.size
def c160 {b:Nat}{w1:LK}{v0 v1 v2 v3:LY}(bq:w1.heap[b]? = some (.cells #[v0,v1,v2,v3] 189)):aiS b w1 v0 v1 v2 v3:=
 ⟨by rw[cell_of bq];rfl,by rw[cell_of bq];rfl,by rw[cell_of bq];rfl,by rw[cell_of bq];rfl,Ny bq,lt_of_heap bq⟩
section
variable {c:Ctx} {w w1:LK} {i d:Nat} (h:Ol c w i d)
include c w w1 i d h
def aus (D:Below (w.alloc Ri).drew.heap.size (w.alloc Ri).drew w1) :
  Ol c w1 i d/\LX w w1/\w1.heap[w.heap.size]? = some Ri:=
 ⟨(h.alloc Ri).drew.later D,((O4.alloc Nh Ri).drew).trans (D.mono MP),(D.block _ MP).trans (LP w Ri)⟩
def atT (D:Below ((w.alloc Ri).alloc Ri).drew.heap.size ((w.alloc Ri).alloc Ri).drew w1) :
  Ol c w1 i d/\LX w w1/\w1.heap[w.heap.size]? = some Ri/\w1.heap[w.heap.size+1]? = some Ri:=by
 refine⟨((h.alloc Ri).alloc Ri).drew.later D,(((O4.alloc Nh Ri).alloc MP Ri).drew).trans (D.mono OM),(D.block _ OM).trans ((zalaa (w.alloc Ri) Ri w.heap.size MP).trans (LP w Ri)),?_⟩;have:=LP (w.alloc Ri) Ri;simp only[zalhk] at this;exact(D.block _ MP).trans this
end
section
variable {c:Ctx} {w w1 cu:LK} {i d:Nat} {v0 v1 v2 v3:LY} (h:Ol c w1 i d)
include c w w1 cu i d v0 v1 v2 v3 h
def aiX (gK:c.lo<=w.heap.size)(bq:w1.heap[w.heap.size]? = some Ri)(ep:w1.heap[w.heap.size+1]? = some Ri)(D:LX w w1)(aO:cu=(((w1.setCell (LD (w.heap.size+1) 0) v0).setCell (LD (w.heap.size+1) 1) v1).setCell (LD (w.heap.size+1) 2) v2).setCell (LD (w.heap.size+1) 3) v3) :
  Ol c cu i d/\LX w cu/\aiS w.heap.size cu (U7) (LJ 0) (LJ 0) (LJ 0)/\aiS (w.heap.size+1) cu v0 v1 v2 v3:=by
 have bA:Below (w.heap.size+1) w1 cu:=by
  rw[aO];exact((((zalbd _ w1).setCell (p:=(LD (w.heap.size+1) 0)) Nh v0).setCell (p:=(LD (w.heap.size+1) 1)) Nh v1).setCell (p:=(LD (w.heap.size+1) 2)) Nh v2).setCell (p:=(LD (w.heap.size+1) 3)) Nh v3
 refine⟨h.ap bA LM,D.trans (bA.mono LM),c160 ((bA.block _ LM).trans bq),c160 ?_⟩;rw[aO];exact aED ep v0 v1 v2 v3
def aiY (bq:w1.heap[w.heap.size]? = some Ri)(D:LX w w1)(aO:cu=w1.alloc (.cells #[v0,v1,v2,v3] 189)) :
  Ol c cu i d/\LX w cu/\aiS w.heap.size cu (U7) (LJ 0) (LJ 0) (LJ 0)/\aiS w1.heap.size cu v0 v1 v2 v3:=by
 subst aO;exact⟨h.alloc _,D.alloc D.size _,c160 ((zalaa _ _ _ (lt_of_heap bq)).trans bq),c160 (LP _ _)⟩
end
def aoi {w cu:LK}{b:Nat}(D:LX w cu)(h:w.heap.size<=b)(v0 v1 v2 v3:LY) :
  LX w ((((cu.setCell (LD b 0) v0).setCell (LD b 1) v1).setCell (LD b 2) v2).setCell (LD b 3) v3):=
 (((D.setCell (p:=(LD b 0)) h _).setCell (p:=(LD b 1)) h _).setCell (p:=(LD b 2)) h _).setCell (p:=(LD b 3)) h _
def amn (c:Ctx)(k:Int)(s:LW)(w:LK)(i d:Nat)(h:Ol c w i d)(W:s=fx c.l i)(ay:Xx s=none) :
  MC 293 #[Nz c,LJ k] w λe w'=>e=MN (.tuple #[aiq,L9 false])/\LX w w':=by
 have cO:=hide h;have bo:=hide ((h.alloc Ri).drew);have rn:=hide (((h.alloc Ri).alloc Ri).drew);have cQ:Hid (∀ L:LK,Ol c L i d->(Instr.lookup 199 (.map (some c.mS)) (LQ s) true).run prog L=.ok (.tuple #[.agg #[U7,LJ 0,LJ 0,LJ 0],L9 false]) L):=λL aO=>by
  have:=V6 c s L aO.base.signs;rw[ay] at this;exact this
 have A{G}(h:G:=by
 refine wpAnyH_ready (rs:=[5,10]) Nw MP (AllReadyH.cons rfl (λK U=>?_) (AllReadyH.cons rfl (λK U=>?_) AllReadyH.nil))
 ·have A{G}(h:G:=by
  have A{G}(h:G:=by
  refine aq8 ?_;refine UK 11 λK U=>?_;go_simp;obtain⟨cu,hA⟩:∃ cu,cu=w1.alloc (.cells #[U7,LJ 0,LJ 0,LJ 0] 189):=⟨_,rfl⟩;obtain⟨bG,a5,⟨cn,bC,dM,iE,la,uf⟩,⟨gP,iX,e9,ot,lb,qX⟩⟩:=aiY (v0:=U7) (v1:=LJ 0) (v2:=LJ 0) (v3:=LJ 0) cd.out p'.out eu.out hA;exact aDm):=LG h;exact aBC):=LG h;go_simp;exact aur
 ·have br{G}(h:G:=by
  have A{G}(h:G:=by
  refine UK 11 λK U=>?_;go_simp;clear lV e8 lW ui j5 SB;obtain⟨cu,hA⟩:∃ cu,cu=(((w1.setCell (LD (w.heap.size+1) 0) (U7)).setCell (LD (w.heap.size+1) 1) (LJ 0)).setCell (LD (w.heap.size+1) 2) (LJ 0)).setCell (LD (w.heap.size+1) 3) (LJ 0):=⟨_,rfl⟩;obtain⟨bG,a5,⟨cn,bC,dM,iE,la,uf⟩,⟨gP,iX,e9,ot,lb,qX⟩⟩:=aiX (v0:=U7) (v1:=LJ 0) (v2:=LJ 0) (v3:=LJ 0) cd.out cO.out.base.size p'.out rz.out eu.out hA;exact aDm):=LG h;exact aBC):=LG h;go_simp;exact zts):=LG h;exact auc
section
variable (c:Ctx) (k:Int) (s:LW) (x:Sg) (w:LK) (i d:Nat) (h:Ol c w i d) (W:s=fx c.l i) (ay:Xx s=some x)
include c k s x w i d h W ay
def aiZ (N:(x.parts==k)=false) :
  MC 293 #[Nz c,LJ k] w λe w'=>e=MN (.tuple #[aiq,L9 false])/\LX w w':=by
 have A{G}(h:G:=by
 have A{G}(h:G:=by
 refine wpAnyH_ready (rs:=[5,10]) Nw MP (AllReadyH.cons rfl (λK U=>?_) (AllReadyH.cons rfl (λK U=>?_) AllReadyH.nil))
 ·have A{G}(h:G:=by
  have A{G}(h:G:=by
  have A{G}(h:G:=by
  obtain⟨bG,a5,⟨cn,bC,dM,iE,la,uf⟩,⟨gP,iX,e9,ot,lb,qX⟩⟩:=aiY (v0:=LQ x.tx) (v1:=LJ x.kd) (v2:=LJ x.parts) (v3:=LJ x.str) cd.out p'.out eu.out hA;exact aDo):=LG h;exact aB1):=LG h;exact aAm):=LG h;go_simp;exact aur
 ·have A{G}(h:G:=by
  obtain⟨bG,a5,⟨cn,bC,dM,iE,la,uf⟩,⟨gP,iX,e9,ot,lb,qX⟩⟩:=aiX (v0:=LQ x.tx) (v1:=LJ x.kd) (v2:=LJ x.parts) (v3:=LJ x.str) cd.out cO.out.base.size p'.out rz.out eu.out hA;exact aDo):=LG h;exact az9):=LG h;exact auc):=LG h;exact aAP
def amo (N:(x.parts==k)=true) :
  MC 293 #[Nz c,LJ k] w λe w'=>e=MN (.tuple #[sgV x,L9 true])/\LX w w':=by
 have A{G}(h:G:=by
 have A{G}(h:G:=by
 refine wpAnyH_ready (rs:=[5,10]) Nw MP (AllReadyH.cons rfl (λK U=>?_) (AllReadyH.cons rfl (λK U=>?_) AllReadyH.nil))
 ·have A{G}(h:G:=by
  have A{G}(h:G:=by
  have A{G}(h:G:=by
  obtain⟨bG,a5,⟨cn,bC,dM,iE,la,uf⟩,⟨gP,iX,e9,ot,lb,qX⟩⟩:=aiY (v0:=LQ x.tx) (v1:=LJ x.kd) (v2:=LJ x.parts) (v3:=LJ x.str) cd.out p'.out eu.out hA;exact aEj):=LG h;exact aB1):=LG h;exact aAm):=LG h;go_simp;exact aur
 ·have A{G}(h:G:=by
  obtain⟨bG,a5,⟨cn,bC,dM,iE,la,uf⟩,⟨gP,iX,e9,ot,lb,qX⟩⟩:=aiX (v0:=LQ x.tx) (v1:=LJ x.kd) (v2:=LJ x.parts) (v3:=LJ x.str) cd.out cO.out.base.size p'.out rz.out eu.out hA;exact aEj):=LG h;exact az9):=LG h;exact auc):=LG h;exact aAP
end
def UU (c:Ctx)(k:Int)(w:LK)(i d:Nat)(h:Ol c w i d) :
  MC 293 #[Nz c,LJ k] w λe w'=>e=MN (.tuple #[ad4 (SA k (fx c.l i)),L9 (SA k (fx c.l i)).isSome])/\LX w w':=by
 cases ay:Xx (fx c.l i) with
 | none=>
  have:SA k (fx c.l i)=none:=by simp[SA,ay]
  rw[this];exact amn c k _ w i d h rfl ay
 | some x=>
  cases N:x.parts==k with
  | false=>
   have:SA k (fx c.l i)=none:=by simp[SA,ay,Option.filter,N]
   rw[this];exact aiZ c k _ x w i d h rfl ay N
  | true=>
   have:SA k (fx c.l i)=some x:=by simp[SA,ay,Option.filter,N]
   rw[this];exact amo c k _ x w i d h rfl ay N
structure FC (c:Ctx)(F:OQ):Prop where
 st:Does c 176 NV F.st
 vl:Does c 243 NV F.vl
 pr:∀ b:Int,2<=b->b<=8->∀ w d i r,F.pr b d i=r->r≠.out->Ol c w i d->MC 281 #[Nz c,LJ b] w (OV c w d (NV w.heap.size) r)
 sg:Does c 292 NV F.sg
def aEP:TM 176:=λ_ _=>by kernel_rfl
def aEQ:TM 243:=λ_ _=>by kernel_rfl
def aER:TM 292:=λ_ _=>by kernel_rfl
section
variable {c:Ctx} {F:OQ} (ai:FC c F) (w:LK) (d i:Nat) (h:Ol c w i d)
include c F ai w d i h
def Uk (ay:MO c.l F.vl d i≠.out):MC 175 #[Nz c,TQ c.R 243] w (OV c w d (NV w.heap.size) (MO c.l F.vl d i)):=
 Yc c 243 F.vl ai.vl aEQ w d i _ rfl ay h
def ZO (ay:MO c.l F.st d i≠.out):MC 175 #[Nz c,TQ c.R 176] w (OV c w d (NV w.heap.size) (MO c.l F.st d i)):=
 Yc c 176 F.st ai.st aEP w d i _ rfl ay h
def aBN (ay:MO c.l F.sg d i≠.out):MC 175 #[Nz c,TQ c.R 292] w (OV c w d (NV w.heap.size) (MO c.l F.sg d i)):=
 Yc c 292 F.sg ai.sg aER w d i _ rfl ay h
end
def bind_ok {α β:Type}(x:α)(i:Nat)(f:α->Nat->PR β):(PR.ok x i).bind f=f x i:=rfl
def Oc {α β:Type}(er:Int)(p:Nat)(f:α->Nat->PR β):(PR.bad er p:PR α).bind f=.bad er p:=rfl
def aaY {α β:Type}(f:α->Nat->PR β):(PR.out:PR α).bind f=.out:=rfl
abbrev From (B:Nat):Nat->Prop:=λb=>B<=b
def QE {c:Ctx}{B:Nat}{w w':LK}{t:Tr}{p:Nat}(h:Nj (From B) w t p)(aa:Ap c.R w.heap.size w w')(bA:c.R<B):Nj (From B) w' t p:=
 Nj.later (Pq.Tq aa bA λ_ h=>h) _ _ h
def TD {B B':Nat}{w:LK}{t:Tr}{p:Nat}(h:Nj (From B) w t p)(bA:B'<=B):Nj (From B') w t p:=Nj.mono (λ_ h _=>zalan bA h) _ _ h
def Zg {c:Ctx}{B:Nat}{w w':LK}{t u:Tr}{p q:Nat}(h:Nj (From B) w t p)(aa:Ap c.R w.heap.size w w')(a7:c.R<B)(bA:B<=w.heap.size)(O:Nj (From w.heap.size) w' u q):LU (From B) w' [t,u] [p,q]:=
 LU.pair (M:=w.heap.size) (Nj.later (I:=λb=>From B b/\b<w.heap.size) (Pq.Tq aa a7 λ_ h=>h.1) _ _ (Nj.mono (λ_ D ab=>⟨D,ab⟩) _ _ h)) (Nj.mono (λ_ D _=>⟨zalan bA D,D⟩) _ _ O)
section
variable {c:Ctx} {w L:LK} {j d:Nat} {ts:List Tr}
include c w L j d ts
def made {ps:List Nat}(a7:Ol c L j d)(bv:Ap c.R w.heap.size w L)(av:LU (From w.heap.size) L ts ps)(ab:ps.length<=maxLen)(bl:Array LY)(am:bl.toList=ps.map LC)(n:Nat)(hlen:ps.length=n)(kd:Int)(tx:LW)(q:Nat)(ac:q=L.heap.size+1) :
  EV w.heap.size ((L.alloc (.cells bl 22)).alloc (MB kd tx 0 (.slice (some (LD L.heap.size 0)) n n))) (.mk kd tx 0 ts) (LC q) /\
  Ol c ((L.alloc (.cells bl 22)).alloc (MB kd tx 0 (.slice (some (LD L.heap.size 0)) n n))) j d /\
  Ap c.R w.heap.size w ((L.alloc (.cells bl 22)).alloc (MB kd tx 0 (.slice (some (LD L.heap.size 0)) n n))):=by
 subst hlen;have W:q=(L.alloc (.cells bl 22)).heap.size:=by rw[ac];simp
 rw[W];exact⟨EV.new (KV.row av bv.size ab bl am) (by simp;have:=bv.size;omega) kd tx 0,(a7.alloc _).alloc _,(bv.alloc bv.size _).alloc (by simp;have:=bv.size;omega) _⟩
def ZM {v:LY}(a7:Ol c L j d)(bv:Ap c.R w.heap.size w L)(av:KV w.heap.size L ts v)(kd:Int)(tx:LW)(q:Nat)(ac:q=L.heap.size) :
  EV w.heap.size (L.alloc (MB kd tx 0 v)) (.mk kd tx 0 ts) (LC q)/\Ol c (L.alloc (MB kd tx 0 v)) j d/\Ap c.R w.heap.size w (L.alloc (MB kd tx 0 v)):=by
 subst ac;exact⟨EV.new av bv.size kd tx 0,a7.alloc _,bv.alloc bv.size _⟩
end
def Zp {c:Ctx}{F:OQ}(ai:FC c F):Does c 171 NV (Px c.l F):=by
 have iv:=Po c.R 243;intro w d i r W ay h;have A{G}(h:G:=by
 have a1:=hide h.SB;unfold Px at W;have aF:=hide W;have bb:=hide ay;clear h W ay;go_enter func171,ntmps171
 cases T:MG c.l NZ i with
 | out=>
  exact Qe
 | bad er p=>
  have ag:=hide (NR c NZ w i d cO.out MK);exact Ze
 | ok dg bH=>
  have ag:=hide (NR c NZ w i d cO.out MK);have A{G}(h:G:=by
  have A{G}(h:G:=by
  cases T:MO c.l F.vl d bH with
  | out=>
   exact Qe
  | bad er p=>
   have ag:=hide (Uk ai w1 d bH cd.out (by rw[T];nofun))
   exact aoh
  | ok gA a8=>
   have ag:=hide (Uk ai w1 d bH cd.out (by rw[T];nofun))
   have A{G}(h:G:=by
   intro e w2 ae;obtain⟨⟨v2,rfl,iC,rfl,gy⟩,aY,aa⟩:=ae;have bR:=hide (b7.out.next aa);have bX:=hide aY;have fw:=hide (TD gy b7.out.size)
   cases T:MG c.l OX a8 with
   | out=>
    exact Qe
   | bad er p=>
    have ag:=hide (NR c OX w2 a8 d bX.out MK);exact aog
   | ok x3 eI=>
    have ag:=hide (NR c OX w2 a8 d bX.out MK);have A{G}(h:G:=by
    intro e aq ae;obtain⟨⟨v3,rfl,rfl⟩,aY,aa⟩:=ae;have b1:=hide (bR.out.next aa);have f5:=hide aY;replace fw:=hide (QE fw.out aa a1.out);go_wp2;go_ret;exact RF aF.out.symm ⟨iC,rfl,fw.out⟩ f5.out b1.out):=LG h;exact WC):=LG h;exact WC):=LG h;exact af5):=LG h;exact WC):=LG h;exact TL
def info22:(prog.info? 22).map (λi=>(i.zero,i.size,i.bytes))=some (some Pe,1,8):=by kernel_rfl
section
variable {B:Nat} {w:LK} {ts:List Tr} {v:LY} (h:KV B w ts v)
include B w ts v h
def KV.shape:∃ a cap,v=.slice a ts.length cap:=by
 obtain⟨ps,T,N⟩:=h;rw[<-LU.length _ _ N];exact NH T
def KV.own (g:Nat)(hg:v.ownBlock=some g):g<w.heap.size/\B<=g:=by
 obtain⟨ps,T,_⟩:=h;exact Me T g hg
end
def KV.mono {B B':Nat}{w:LK}{ts:List Tr}{v:LY}(h:KV B w ts v)(bA:B'<=B):KV B' w ts v:=by
 obtain⟨ps,T,N⟩:=h;refine⟨ps,⟨T.1,?_⟩,LU.mono (λb h _=>⟨by omega,h.2⟩) _ _ N⟩;exact awS
def ajQ {B:Nat}{w1 aq:LK}{ts ci:List Tr}{v:LY}{ps bf:List Nat}{g cap n:Nat}{o:Obj}(N:LU (λb=>B<=b/\v.ownBlock≠some b) w1 (ts++ci) (ps++bf))
  (hown:aq.ownsRow B 22 1 (.slice (some (LD g 0)) n cap) n ((ps++bf).map LC)) (av:n=(ps++bf).length) (cS:(w1.alloc o).grownBy aq v.ownBlock)
  (hg:v.ownBlock=some g\/g=w1.heap.size+1):KV B aq (ts++ci) (.slice (some (LD g 0)) n cap):=by
 subst av;refine⟨ps++bf,hown,?_⟩;have W:Pq (λb=>B<=b/\b≠g/\v.ownBlock≠some b) w1 aq:=by
  intro b D ab;have E:LX w1 (w1.alloc o):=Qn;rw[<-E.block b ab];exact cS.block b OM (λe=>D.2.2 e.symm)
 have aJ:=LU.mono (J:=λb=>B<=b/\b≠g/\v.ownBlock≠some b) (λb D ab=>⟨D.1,λe=>by (rcases hg with hg|hg);(exact D.2 (by rw[hg,e]));omega,D.2⟩) _ _ N
 exact LU.mono (λb D _=>⟨D.1,λe=>by simp only[Value.ownBlock,zalbw] at e;exact D.2.1 e.symm⟩) _ _ (LU.later W _ _ aJ)
def nxt (c:Ctx)(w:LK):Nat:=match w.cell? (LD c.R 1) with|some (.int _ v)=>v.toNat|_=>0
def TG {c:Ctx}{w:LK}{i d:Nat}(h:Ol c w i d):nxt c w=i:=by unfold nxt;rw[h.c1];rfl
def OT (w:LK)(p H:Nat)(h:w.heap.size=H):∀ j u,[LC p][j]? = some u->(w.alloc (.cells #[LC p] 22)).cell? (((LD H 0):Addr).add j)=some u:=by
 intro j u aT
 match j,aT with
 | 0,aT=>
  simp only[zalfw,zalbw] at aT;subst aT;subst h;rw[show ((LD w.heap.size 0):Addr).add 0=(LD w.heap.size 0) from rfl,cell_of (LP _ _)];rfl
 | j+1,aT=>simp at aT
def one_one (p:Nat):∀ u ∈ [LC p],u.oneCell'=true:=by
 intro u aS;simp only[zalaf] at aS;subst aS;rfl
def acV {c:Ctx}{B:Nat}{w w1:LK}{ts:List Tr}{v:LY}{t:Tr}{p:Nat}(N:KV B w ts v)(bA:B<=w.heap.size)(aa:Ap c.R w.heap.size w w1)(a7:c.R<B)(av:Nj (From w.heap.size) w1 t p) :
  ∃ ps,w1.ownsRow B 22 1 v ps.length (ps.map LC)/\LU (λb=>B<=b/\v.ownBlock≠some b) w1 ts ps/\LU (λb=>B<=b/\v.ownBlock≠some b) w1 (ts++[t]) (ps++[p]):=by
 have hown:=N.own;obtain⟨ps,T,W⟩:=N;have E:=LU.later (I:=λb=>(B<=b/\v.ownBlock≠some b)/\b<w.heap.size) (Pq.Tq aa a7 λ_ h=>h.1.1) _ _ (LU.mono (λ_ D ab=>⟨D,ab⟩) _ _ W);exact aEh
def QA {c:Ctx}{F:OQ}(ai:FC c F)(aN:∃ k,VW c.l k F):Does c 165 EV (MV c.l F):=by
 have iv:=Po c.R 176;intro w d i r W ay h;have cO:=hide h;have cQ:=hide h.base.len;have A{G}(h:G:=by
 have fG:=hide (Ap.refl c.R w.heap.size w);have a1:=hide h.SB;have nu:=hide ai;have gV:=hide aN;unfold MV at W;have aF:=hide W;have bb:=hide ay;clear h W ay aN;go_enter func165,ntmps165
 cases T:MG c.l Nc i with
 | out=>
  exact Qe
 | bad er p=>
  have ag:=hide (NR c Nc w i d cO.out MK);exact Ze
 | ok dg bH=>
  have ag:=hide (NR c Nc w i d cO.out MK);have A{G}(h:G:=by
  have A{G}(h:G:=by
  clear aa;go_wp2_with fail
  go_loopw [3] (λv wr=>∃ k au j,(NM c.l F d k au j).bind (λts aX=>PR.ok (.mk 6 LH 0 ts) aX)=r/\Ol c wr j d/\Ap c.R w.heap.size w wr/\KV w.heap.size wr au v/\au.length<=j) (λ_ wr=>c.l.length - nxt c wr)
  case atStart=>exact⟨F.fuel,[],bH,aF.out,cd.out,b7.out,KV.nil _ _,zalae _⟩
  case round=>
   obtain⟨k,au,j,ac,aY,dq,e7,dE⟩:=hrel
   cases k with
   | zero=>exact absurd ac.symm bb.out
   | succ k=>
    have A{G}(h:G:=by
    by_cases af:fx c.l j=PW
    ·have aG:Hid (PR.ok (.mk 6 LH 0 au) (j+1)=r):=by
      unfold NM at ac;rw[zalak af,bind_ok] at ac;exact ac
     have ag:=hide (RD c PW wr j d aY af MK);obtain⟨va,ck,rfl⟩:=e7.shape;clear ac dE af;go_wp2_with fail;refine NJ ?_;rintro e aq ⟨rfl,d6,da⟩;have b1:=hide (bR.out.next da);have f5:=hide d6;have em:=hide (KV.later e3.out da a1.out);have ag:=hide (Oi 6 LH (.slice va au.length ck) aq ⟨_,_,_,rfl⟩);have A{G}(h:G:=by
     obtain⟨bZ,cf,cx⟩:=ZM f5.out b1.out em.out 6 LH _ rfl;exact RF aG.out.symm bZ cf cx):=LG h;exact Y8
    ·have aG:Hid ((MO c.l F.st d j).bind (λt az=>(NM c.l F d k (au++[t]) az).bind λts aX=>PR.ok (.mk 6 LH 0 ts) aX)=r):=by
      unfold NM at ac;rw[zalah af] at ac;rw[<-ac]
      cases MO c.l F.st d j <;> rfl
     have ag:=hide (Sr c PW wr j d aY af);clear ac dE af
     cases T:MO c.l F.st d j with
     | out=>
      exact atO
     | bad er p=>
      have dv:=hide T;rw[T] at aG;simp only[Oc] at aG;clear T;have A{G}(h:G:=by
      have ag:=hide (ZO nu.out aq d j f5.out (by rw[dv.out];nofun))
      exact ayX):=LG h;exact alI
     | ok t a8=>
      have dv:=hide T;rw[T] at aG;simp only[bind_ok] at aG;clear T;have A{G}(h:G:=by
      have em:=hide (KV.later e3.out (Ap.of bx) a1.out);have ag:=hide (ZO nu.out aq d j f5.out (by rw[dv.out];nofun))
      rw[dv.out] at ag;have A{G}(h:G:=by
      have hlt2:=aY.lt;have hR:j<a8:=by
       obtain⟨jl,cA⟩:=Lu gV;exact((Pm (l:=c.l) (d:=d) (cA.st (d+1) j hj)).2 t a8 dv.out).1
      clear aa;have A{G}(h:G:=by
      have dE:=Lu ny;have A{G}(h:G:=by
      have A{G}(h:G:=by
      go_wp2
      go_roundw
      case rel=>exact⟨k,au++[t],a8,aG.out,gX.out,eg.out,hJ.out,by simp;omega⟩
      case measure=>rw[TG gX.out,TG nK.out];omega):=LG h;exact aub):=LG h;exact ais):=LG h;exact an3):=LG h;exact aul):=LG h;exact alI):=LG h;exact auB):=LG h;exact af5):=LG h;exact WC):=LG h;exact alN
def Asks (c:Ctx)(f:Nat)(b:Nat->Bool):Prop:=
 ∀ w d i,Ol c w i d->MC f #[Nz c] w λe w'=>e=MN (L9 (b i))/\LX w w'
def LV (B:Nat)(w:LK)(ts:List Tr)(v:LY):Prop:=KV B w ts v/\(ts=[]->v=.slice none 0 0)/\ts.length<=3001
def Xc {c:Ctx}(aZ xw:Nat)(begins:Nat->Bool)(lc:Nat->Nat->PR Tr)(opn shut:LW)(D:Asks c aZ begins)(ae:Does c xw NV lc)
  (JA:TM aZ) (JB:TM xw)
  (eA:opn≠LH) (hE:shut≠LH) (vO:∀ d i t j,i<c.l.length->lc d i=.ok t j->i<j)
  (k:Nat) (w:LK) (d i:Nat) (r:PR (List Tr)) (W:TP c.l opn shut begins (lc d) k i=r) (ay:r≠.out) (h:Ol c w i d) :
  MC 246 #[Nz c,LQ opn,LQ shut,TQ c.R aZ,TQ c.R xw] w (OV c w d (LV w.heap.size) r):=by
 have cO:=hide h;have cQ:=hide h.base.len;have A{G}(h:G:=by
 have fG:=hide (Ap.refl c.R w.heap.size w);have a1:=hide h.SB;have aV:=hide D;have bk:=hide ae;have jx:=hide eA;have h1:=hide hE;have uJ:=hide vO;unfold TP at W;have aF:=hide W;have bb:=hide ay;clear h W ay eA hE vO;unfold TQ;go_enter func246,ntmps246
 cases T:MG c.l opn i with
 | out=>
  exact Qe
 | bad er p=>
  have ag:=hide (NR c opn w i d cO.out jx.out);exact Ze
 | ok dg bH=>
  have ag:=hide (NR c opn w i d cO.out jx.out);have A{G}(h:G:=by
  have A{G}(h:G:=by
  clear aa
  by_cases af:fx c.l bH=shut
  ·have ag:=hide (RD c shut w1 bH d cd.out af h1.out);rw[zalak af] at aF;clear af;go_wp2_with fail;refine NJ ?_;rintro e w2 ⟨rfl,bG,cI⟩;have bR:=hide (b7.out.next cI);have bX:=hide bG;go_wp2;go_ret;exact RF aF.out.symm ⟨KV.nil _ _,λ_=>rfl,by simp⟩ bX.out bR.out
  ·have ag:=hide (Sr c shut w1 bH d cd.out af);rw[zalah af] at aF;clear af;go_wp2_with fail;refine NJ ?_;rintro e w2 ⟨rfl,a5⟩;have bR:=hide (b7.out.next (Ap.of a5));have bX:=hide (cd.out.later a5);go_wp2_with fail
   go_loopw [11] (λv wr=>∃ k au j,O5 c.l shut begins (lc d) k au j=r/\Ol c wr j d/\Ap c.R w.heap.size w wr/\KV w.heap.size wr au v/\au.length<=j) (λ_ wr=>c.l.length - nxt c wr)
   case atStart=>exact⟨k,[],bH,aF.out,bX.out,bR.out,KV.nil _ _,zalae _⟩
   case round=>
    obtain⟨k,au,j,ac,aY,dq,e7,dE⟩:=hrel
    cases k with
    | zero=>exact absurd ac.symm bb.out
    | succ k=>
     have A{G}(h:G:=by
     unfold O5 at ac;have aG:=hide ac;clear ac dE;obtain⟨va,ck,rfl⟩:=e7.shape
     by_cases dp:au.length=8
     ·
      cases hbg:begins j with
      | true=>
       rw[zalak ⟨dp,hbg⟩] at aG;have A{G}(h:G:=by
       go_wp2_with fail;refine NJ ?_;rintro e aq ⟨rfl,bx⟩;have b1:=hide (bR.out.next (Ap.of bx));have ag:=hide (UE c 4 aq j d (bX.out.later bx));go_wp2_with fail;refine NJ ?_;rintro e bh ⟨rfl,hP⟩;exact⟨rfl,O3 aG.out.symm (b1.out.next (Ap.of hP))⟩):=LG h;exact aCj
      | false=>
       rw[zalah (by rw[hbg];rintro⟨_,a2⟩;cases a2)] at aG
       have A{G}(h:G:=by
       have A{G}(h:G:=by
       have em:=hide (KV.later e3.out (Ap.of bx) a1.out);clear BI;have A{G}(h:G:=by
       cases T:lc d j with
       | out=>
        exact avn
       | bad er p=>
        have ag:Hid _:=Lu bk aq d j _ rfl (by rw[T];nofun) f5.out
        rw[T] at ag bY;simp only[Oc] at bY;clear T;have A{G}(h:G:=by
        exact⟨rfl,O3 bY.out.symm (b1.out.next aa)⟩):=LG h;exact U8
       | ok t a8=>
        have ag:Hid _:=Lu bk aq d j _ rfl (by rw[T];nofun) f5.out
        have hR:j<a8:=Lu uJ d j t a8 hj T;rw[T] at ag bY;simp only[bind_ok] at bY;clear T;have A{G}(h:G:=by
        have l8:=hide (KV.later em.out aa a1.out);exact aDK):=LG h;exact aul):=LG h;exact aBw):=LG h;exact alI):=LG h;exact aCj
     ·rw[zalah (λa2=>dp a2.1)] at aG;have BI:((au.length:Int)==8)=false:=zalaj.2 LM;clear dp;have A{G}(h:G:=by
      cases T:lc d j with
      | out=>
       exact avn
      | bad er p=>
       have ag:Hid _:=Lu bk wr d j _ rfl (by rw[T];nofun) bX.out
       rw[T] at ag bY;simp only[Oc] at bY;clear T;have A{G}(h:G:=by
       exact⟨rfl,O3 bY.out.symm (bR.out.next aa)⟩):=LG h;exact U8
      | ok t a8=>
       have ag:Hid _:=Lu bk wr d j _ rfl (by rw[T];nofun) bX.out
       have hR:j<a8:=Lu uJ d j t a8 hj T;rw[T] at ag bY;simp only[bind_ok] at bY;clear T;go_wp2_with fail;refine NJ ?_;intro e bh ae;obtain⟨⟨pC,rfl,iD,rfl,ho⟩,aY,aa⟩:=ae;have dd:=hide (bR.out.next aa);have mH:=hide aY;have h0:=hide (acV e3.out bR.out.size aa a1.out ho);have l8:=hide (KV.later e3.out aa a1.out);exact aDK):=LG h;exact aBw):=LG h;exact auB):=LG h;exact af5):=LG h;exact WC):=LG h;exact alN
def ZK (F:OQ):Prop:=∀ d i t j,F.st d i=.ok t j->t.kd=15->∃ v r,t.kids=v::r
def agE {l:List Tk}{f:Nat->Nat->PR Tr}{d i j:Nat}{t:Tr}(h:MO l f d i=.ok t j):f (d+1) i=.ok t j:=by
 unfold MO at h
 split at h
 ·
  cases h
 ·exact h
section
variable {l:List Tk} {F:OQ} (ai:ZK F)
include l F ai
def ach {d:Nat}:∀ n au i ts j,(∀ t ∈ au,t.kd=15->∃ v r,t.kids=v::r)->NM l F d n au i=.ok ts j->∀ t ∈ ts,t.kd=15->∃ v r,t.kids=v::r:=by
 intro n
 induction n with
 | zero=>intro au i ts j _ h;cases h
 | succ n aU=>
  intro au i ts j hacc h;unfold NM at h
  split at h
  ·
   cases h;exact hacc
  ·
   cases T:MO l F.st d i with
   | out=>rw[T] at h;cases h
   | bad er p=>rw[T] at h;cases h
   | ok t bH=>
    rw[T,bind_ok] at h;refine aU _ _ _ _ (λu aS=>?_) h
    rcases zalat.1 aS with aS|aS
    ·exact hacc u aS
    ·rw[zalaf] at aS;subst aS;exact ai _ _ _ _ (agE T)
def Vr {d i j:Nat}{t:Tr}(h:MV l F d i=.ok t j):aoG t:=by
 unfold MV at h
 cases aA:MG l Nc i with
 | out=>rw[aA] at h;cases h
 | bad er p=>rw[aA] at h;cases h
 | ok x bH=>
  rw[aA,bind_ok] at h
  cases D:NM l F d F.fuel [] bH with
  | out=>rw[D] at h;cases h
  | bad er p=>rw[D] at h;cases h
  | ok ts a8=>
   rw[D,bind_ok] at h;cases h;intro a9 r N eX;have yF:ts=a9::r:=N;exact ach ai _ _ _ _ _ (λ_ aS=>absurd aS MP) D a9 (by rw[yF];simp) eX
end
def ake:TM 247:=λ_ _=>by kernel_rfl
def asD:TM 282:=λ_ _=>by kernel_rfl
def asE:TM 248:=λ_ _=>by kernel_rfl
def YG (c:Ctx):Asks c 247 (isName c.l):=λw d i h=>Ya c w i d h
section
variable {c:Ctx}
include c
def aq6 {F:OQ}(ai:FC c F):Does c 313 NV (Y1 c.l F):=by
 have iv:=Po c.R 243;intro w d i r W ay h;have A{G}(h:G:=by
 unfold Y1 at W;have aF:=hide W;have bb:=hide ay;clear h W ay;go_enter func313,ntmps313
 cases T:MO c.l F.vl d i with
 | out=>
  rw[T] at aF;exact absurd aF.out.symm bb.out
 | bad er p=>
  have ag:=hide (Uk ai w d i cO.out (by rw[T];nofun))
  rw[T] at ag aF;exact aDs
 | ok dg bH=>
  have ag:=hide (Uk ai w d i cO.out (by rw[T];nofun))
  rw[T] at ag aF;clear T;go_wp2_with fail;refine NJ ?_;have A{G}(h:G:=by
  have A{G}(h:G:=by
  go_wp2;go_ret;exact RF aF.out.symm ⟨ep,rfl,dO.out⟩ cd.out b7.out):=LG h;exact auU):=LG h;exact ad6):=LG h;exact TL
def adb:Does c 282 NV (λ_=>Qw c.l):=by
 intro w d i r W ay h;have A{G}(h:G:=by
 dsimp only at W
 unfold Qw at W;have aF:=hide W;have bb:=hide ay;clear h W ay;go_enter func282,ntmps282
 cases T:nameP c.l i with
 | out=>
  exact Qe
 | bad er p=>
  have ag:=hide (name_any c w i d cO.out);exact Ze
 | ok dg bH=>
  have ag:=hide (name_any c w i d cO.out);have A{G}(h:G:=by
  have A{G}(h:G:=by
  have ag:=hide (Oi 23 dg QJ w1 ⟨_,_,_,rfl⟩);have A{G}(h:G:=by
  obtain⟨bZ,cf,cx⟩:=ZM cd.out b7.out (KV.nil _ _) 23 dg _ rfl;exact RF aF.out.symm bZ.nv cf cx):=LG h;exact Y8):=LG h;exact af5):=LG h;exact WC):=LG h;exact TL
def agV {F:OQ}(ai:FC c F):Does c 248 NV (Rq c.l F):=by
 have iv:=Po c.R 243;intro w d i r W ay h;have A{G}(h:G:=by
 unfold Rq at W;have aF:=hide W;have bb:=hide ay;clear h W ay;go_enter func248,ntmps248
 cases T:nameP c.l i with
 | out=>
  exact Qe
 | bad er p=>
  have ag:=hide (name_any c w i d cO.out);exact Ze
 | ok dg bH=>
  have ag:=hide (name_any c w i d cO.out);have A{G}(h:G:=by
  have A{G}(h:G:=by
  cases T:MG c.l XT bH with
  | out=>
   exact Qe
  | bad er p=>
   have ag:=hide (NR c XT w1 bH d cd.out MK);exact aoh
  | ok gA a8=>
   have ag:=hide (NR c XT w1 bH d cd.out MK);have A{G}(h:G:=by
   have A{G}(h:G:=by
   cases T:MO c.l F.vl d a8 with
   | out=>
    exact Qe
   | bad er p=>
    have ag:=hide (Uk ai w2 d a8 bX.out (by rw[T];nofun))
    exact aog
   | ok x3 eI=>
    have ag:=hide (Uk ai w2 d a8 bX.out (by rw[T];nofun))
    have A{G}(h:G:=by
    have A{G}(h:G:=by
    have ag:=hide (Oi 39 dg (.slice (some (LD aq.heap.size 0)) 1 1) (aq.alloc (.cells #[LC mA] 22)) ⟨_,_,_,rfl⟩);have A{G}(h:G:=by
    obtain⟨bZ,cf,cx⟩:=made f5.out b1.out (LU.cons gU.out LU.nil) (by simp[maxLen]) #[LC mA] rfl 1 rfl 39 dg (aq.heap.size+1) rfl;exact RF aF.out.symm bZ.nv cf cx):=LG h;exact Y8):=LG h;exact auy):=LG h;exact WC):=LG h;exact auK):=LG h;exact WC):=LG h;exact af5):=LG h;exact WC):=LG h;exact TL
def ade (a3:Ends c.l)(d i:Nat)(t:Tr)(j:Nat)(ak:i<c.l.length)(h:(λ(_:Nat)=>Qw c.l) d i=.ok t j):i<j:=((Y3 (q:=True) a3 ak).2 t j h).1
def agW {F:OQ}{k:Nat}(aN:VW c.l k F)(a3:Ends c.l)(d i:Nat)(t:Tr)(j:Nat)(ak:i<c.l.length)(h:Rq c.l F d i=.ok t j):i<j:=((aaK (q:=False) a3 aN ak (λh=>h.elim)).2 t j h).1
def aq7 {F:OQ}{k:Nat}(aN:VW c.l k F)(d i:Nat)(t:Tr)(j:Nat)(ak:i<c.l.length)(h:Y1 c.l F d i=.ok t j):i<j:=((aao (q:=False) aN ak (λh=>h.elim)).2 t j h).1
def aiP {F:OQ}:Does c 245 NV (λ_=>Qc c.l F):=by
 have iv:=Po c.R 247;have CG:=Po c.R 282;intro w d i r W ay h;have cG:=hide h.base.ends;have A{G}(h:G:=by
 dsimp only at W
 unfold Qc at W;have aF:=hide W;have bb:=hide ay;clear h W ay;go_enter func245,ntmps245
 cases T:TP c.l NZ OX (isName c.l) (Qw c.l) F.fuel i with
 | out=>
  exact Qe
 | bad er p=>
  have ag:=hide (Xc 247 282 (isName c.l) (λ_=>Qw c.l) NZ OX (YG c) adb ake asD MK MK (ade cG.out) F.fuel w d i _ rfl (by rw[T];nofun) cO.out)
  exact Ze
 | ok dg bH=>
  have ag:=hide (Xc 247 282 (isName c.l) (λ_=>Qw c.l) NZ OX (YG c) adb ake asD MK MK (ade cG.out) F.fuel w d i _ rfl (by rw[T];nofun) cO.out)
  have A{G}(h:G:=by
  have A{G}(h:G:=by
  have dO:=hide (KV.mono eH.1 fG.out.size);obtain⟨va,ck,rfl⟩:=dO.out.shape;have ag:=hide (Oi 40 LH (.slice va dg.length ck) w1 ⟨_,_,_,rfl⟩);have A{G}(h:G:=by
  obtain⟨bZ,cf,cx⟩:=ZM cd.out b7.out dO.out 40 LH _ rfl;exact RF aF.out.symm bZ.nv cf cx):=LG h;exact Y8):=LG h;exact auL):=LG h;exact WC):=LG h;exact TL
def aiQ {F:OQ}(ai:FC c F)(aN:∃ k,VW c.l k F):Does c 172 NV (RP c.l F):=by
 have iv:=Po c.R 247;have CG:=Po c.R 248;obtain⟨k,aN⟩:=aN;intro w d i r W ay h;have cG:=hide h.base.ends;have gV:=hide aN;clear aN;have A{G}(h:G:=by
 unfold RP at W;have aF:=hide W;have bb:=hide ay;clear h W ay;go_enter func172,ntmps172
 cases T:TP c.l Nc PW (isName c.l) (Rq c.l F d) F.fuel i with
 | out=>
  exact Qe
 | bad er p=>
  have ag:=hide (Xc 247 248 (isName c.l) (Rq c.l F) Nc PW (YG c) (agV ai) ake asE MK MK (agW gV.out cG.out) F.fuel w d i _ rfl (by rw[T];nofun) cO.out)
  exact Ze
 | ok dg bH=>
  have ag:=hide (Xc 247 248 (isName c.l) (Rq c.l F) Nc PW (YG c) (agV ai) ake asE MK MK (agW gV.out cG.out) F.fuel w d i _ rfl (by rw[T];nofun) cO.out)
  have A{G}(h:G:=by
  have A{G}(h:G:=by
  have dO:=hide (KV.mono eH.1 fG.out.size);obtain⟨va,ck,rfl⟩:=dO.out.shape;have ag:=hide (Oi 38 LH (.slice va dg.length ck) w1 ⟨_,_,_,rfl⟩);have A{G}(h:G:=by
  obtain⟨bZ,cf,cx⟩:=ZM cd.out b7.out dO.out 38 LH _ rfl;exact RF aF.out.symm bZ.nv cf cx):=LG h;exact Y8):=LG h;exact auL):=LG h;exact WC):=LG h;exact TL
def empty_any:Does c 166 NV (λ_ i=>(MG c.l Nb i).bind λ_ az=>.ok (.mk 16 LH 0 []) az):=by
 intro w d i r W ay h;have A{G}(h:G:=by
 dsimp only at W
 have aF:=hide W;have bb:=hide ay;clear h W ay;go_enter func166,ntmps166
 cases T:MG c.l Nb i with
 | out=>
  exact Qe
 | bad er p=>
  have ag:=hide (NR c Nb w i d cO.out MK);exact Ze
 | ok dg bH=>
  have ag:=hide (NR c Nb w i d cO.out MK);have A{G}(h:G:=by
  have A{G}(h:G:=by
  have ag:=hide (Oi 16 LH QJ w1 ⟨_,_,_,rfl⟩);have A{G}(h:G:=by
  obtain⟨bZ,cf,cx⟩:=ZM cd.out b7.out (KV.nil _ _) 16 LH _ rfl;exact RF aF.out.symm bZ.nv cf cx):=LG h;exact Y8):=LG h;exact af5):=LG h;exact WC):=LG h;exact TL
end
def aiH (l:List (LW × LY))(k:LW)(v:LY):(mapOf l).push { key:=LQ k,val:=v,born:=l.length }=mapOf (l++[(k,v)]):=by
 unfold mapOf;rw[zalfj,zalam];simp[mkE,List.zipIdx]
def NS (L:LK)(m:Nat)(o:Obj):LK:={ L with heap:=L.heap.setIfInBounds m o }
def Td (L:LK)(m:Nat)(o:Obj):(NS L m o).heap.size=L.heap.size:=by simp[NS]
def TY {L:LK}{m:Nat}{o:Obj}(h:m<L.heap.size):(NS L m o).heap[m]? = some o:=by simp[NS,h]
def OH {L:LK}{m k:Nat}{o:Obj}(h:k≠m):(NS L m o).heap[k]? = L.heap[k]?:=by simp[NS,zalfi h]
def Wi {B:Nat}{w L:LK}{m:Nat}{o:Obj}(h:Below B w L)(aA:B<=m):Below B w (NS L m o):=
 ⟨h.os,h.tape,h.output,by rw[Td];exact h.size,λk N=>by rw[OH LM];exact h.block k N⟩
def Wj (cE fF:TypeId)(m:Nat)(l:List (LW × LY))(s:LW)(v:LY)(L:LK)(ce:prog.underlying cE=some (.map 9 fF))(aA:L.heap[m]? = some (.map (mapOf l) l.length))(av:l.find? (λe=>decide (s=e.1))=none) :
  (Instr.mapUpdate cE (.map (some m)) (LQ s) v).run prog L=.ok () (NS L m (.map (mapOf (l++[(s,v)])) (l.length+1))):=by
 obtain⟨o,E,O⟩:=Zf s l 0 0;have dt:=zalgo;have A{G}(h:G:=by
 have ao:(Instr.findKey 9 (LQ s) (mapOf l).toList).run prog L=.ok none L:=by
  refine aq9 ?_;simp only[zalcm,mapOf];rw[E];rfl
 have dU:∀ b,(Instr.checkKey b 10000 9 (LQ s)).run prog L=.ok () L:=atG
 have hg:(getObj m).run prog L=.ok (.map (mapOf l) l.length) L:=by simp[getObj,Sem.run,aA]
 unfold Instr.mapUpdate;rw[zalbu,zalcl ce L];simp only[zalcm,zalbu,hg,dU,ao];rw[aiH];simp[setObj,Sem.run,aA,NS]):=LG h;exact auT
def mkMap (cE:TypeId)(L:LK):(Instr.makeMap cE none).run prog L=.ok (.map (some L.heap.size)) (L.alloc (.map #[] 0)):=rfl
structure Open (B:Nat)(w:LK)(t:Tr)(p:Nat)(u:LY)(ps:List Nat):Prop where
 low:B<=p
 blk:w.heap[p]? = some (MB t.kd t.tx t.n u)
 row:w.ownsRow B 22 1 u ps.length (ps.map LC)
 own:u.ownBlock≠some p
 kids:LU (λb=>B<=b/\b≠p/\u.ownBlock≠some b) w t.kids ps
def EV.opens {B:Nat}{w:LK}{t:Tr}{v:LY}(h:EV B w t v):∃ p u ps,v=LC p/\Open B w t p u ps:=by
 obtain⟨p,u,ps,rfl,E,O,ao,aM,bw⟩:=h;exact⟨p,u,ps,rfl,E,O,ao,aM,bw⟩
def Open.ev {B:Nat}{w:LK}{t:Tr}{p:Nat}{u:LY}{ps:List Nat}(h:Open B w t p u ps):EV B w t (LC p):=⟨p,u,ps,rfl,h.low,h.blk,h.row,h.own,h.kids⟩
def Open.later {c:Ctx}{B:Nat}{w w':LK}{t:Tr}{p:Nat}{u:LY}{ps:List Nat}(h:Open B w t p u ps)(aa:Ap c.R w.heap.size w w')(bA:c.R<B):Open B w' t p u ps:=
 ⟨h.low,by rw[aa.block p (lt_of_heap h.blk) (by have:=h.low;omega)];exact h.blk,L8 (I:=λb=>B<=b) (Pq.Tq aa bA λ_ h=>h) (λg hg=>(Me h.row g hg).2) h.row,h.own,LU.later (Pq.Tq aa bA λ_ h=>h.1) _ _ h.kids⟩
section
variable {B:Nat} {w:LK} {t:Tr} {p:Nat} {u:LY} {ps:List Nat} (h:Open B w t p u ps)
include B w t p u ps h
def Open.cell:w.cell? (LD p 3)=some u/\(∀ o,w.frozen? (LD p o)=false)/\p<w.heap.size:=
 ⟨(node_cells h.blk).2.2.2.1,(node_cells h.blk).2.2.2.2,lt_of_heap h.blk⟩
def Open.shape:∃ a cap,u=.slice a t.kids.length cap:=by
 rw[<-LU.length _ _ h.kids];exact NH h.row
end
def Open.apart {c:Ctx}{B:Nat}{w w1:LK}{t:Tr}{p:Nat}{u:LY}{ps:List Nat}(h:Open B w t p u ps)(bA:B<=w.heap.size)(aa:Ap c.R w.heap.size w w1)(a7:c.R<B){ci:List Tr}{bf:List Nat}(av:LU (From w.heap.size) w1 ci bf) :
  LU (λb=>B<=b/\b≠p/\u.ownBlock≠some b) w1 (t.kids++ci) (ps++bf):=
 LU.append (M:=w.heap.size) _ _ (LU.mono (λb D _=>by
  have E:w.heap.size<=b:=D;have O:=lt_of_heap h.blk;exact⟨⟨by omega,by omega,λe=>by have:=(Me h.row b e).1;omega⟩,E⟩) _ _ av)
  (LU.later (I:=λb=>(B<=b/\b≠p/\u.ownBlock≠some b)/\b<w.heap.size) (Pq.Tq aa a7 λ_ h=>h.1.1) _ _ (LU.mono (λ_ D ab=>⟨D,ab⟩) _ _ h.kids))
def aeb {B:Nat}{w0 aq:LK}{kd n:Int}{tx:LW}{ts ci:List Tr}{ps bf:List Nat}{p g m cap:Nat}{u:LY}(bA:B<=p)(D:w0.heap[p]? = some (MB kd tx n u))(aS:u.ownBlock≠some p)
  (N:LU (λb=>B<=b/\b≠p/\u.ownBlock≠some b) w0 (ts++ci) (ps++bf))
  (hown:aq.ownsRow B 22 1 (.slice (some (LD g 0)) m cap) m ((ps++bf).map LC)) (aA:m=(ps++bf).length) (cS:w0.grownBy aq u.ownBlock) (hg:u.ownBlock=some g\/g=w0.heap.size) :
  EV B (aq.setCell (LD p 3) (.slice (some (LD g 0)) m cap)) (.mk kd tx n (ts++ci)) (LC p):=by
 subst aA;have aC:=lt_of_heap D;have Cr:g≠p:=by
  rcases hg with hg|hg
  ·exact λe=>aS (by rw[hg,e])
  ·omega
 have ao:aq.heap[p]? = some (MB kd tx n u):=by rw[cS.block p aC (λe=>aS e.symm)];exact D
 have hset:∀ b,b≠p->(aq.setCell (LD p 3) (.slice (some (LD g 0)) (ps++bf).length cap)).heap[b]? = aq.heap[b]?:=λb D=>zalap aq (LD p 3) _ b D;refine⟨p,.slice (some (LD g 0)) (ps++bf).length cap,ps++bf,rfl,bA,by rw[heap_set ao];rfl,?_,λe=>Cr (by simpa[Value.ownBlock] using e),?_⟩
 ·exact L8 (I:=λb=>b=g) (λb D _=>hset b (by rw[D];exact Cr)) (λdJ fX=>by simpa[Value.ownBlock] using fX.symm) hown
 ·have aJ:=LU.mono (J:=λb=>B<=b/\b≠p/\b≠g/\u.ownBlock≠some b) (λb D ab=>⟨D.1,D.2.1,λe=>by (rcases hg with hg|hg);(exact D.2.2 (by rw[hg,e]));omega,D.2.2⟩) _ _ N
  have W:Pq (λb=>B<=b/\b≠p/\b≠g/\u.ownBlock≠some b) w0 (aq.setCell (LD p 3) (.slice (some (LD g 0)) (ps++bf).length cap)):=by
   intro b D ab;rw[hset b D.2.1];exact cS.block b ab (λe=>D.2.2.2 e.symm)
  exact LU.mono (λb D _=>⟨D.1,D.2.1,λe=>by simp only[Value.ownBlock,zalbw] at e;exact D.2.2.1 e.symm⟩) _ _ (LU.later W _ _ aJ)
def XH {c:Ctx}{w w1 aq:LK}{j d:Nat}{t x:Tr}{p q g cap:Nat}{u:LY}{ps:List Nat}(eS:Open w.heap.size w1 t p u ps)(af:LU (λb=>w.heap.size<=b/\b≠p/\u.ownBlock≠some b) w1 (t.kids++[x]) (ps++[q]))(a7:Ol c w1 j d)(bv:Ap c.R w.heap.size w w1)(gK:c.lo<=w.heap.size)
  (hown:aq.ownsRow w.heap.size 22 1 (.slice (some (LD g 0)) (t.kids.length+1) cap) (t.kids.length+1) (ps.map LC++[LC q])) (cS:(w1.alloc (.cells #[LC q] 22)).grownBy aq u.ownBlock) (hg:u.ownBlock=some g\/g=w1.heap.size+1) :
  EV w.heap.size (aq.setCell (LD p 3) (.slice (some (LD g 0)) (t.kids.length+1) cap)) (.mk t.kd t.tx t.n (t.kids++[x])) (LC p) /\
  Ol c (aq.setCell (LD p 3) (.slice (some (LD g 0)) (t.kids.length+1) cap)) j d /\
  Ap c.R w.heap.size w (aq.setCell (LD p 3) (.slice (some (LD g 0)) (t.kids.length+1) cap)):=by
 have hlen:=LU.length _ _ eS.kids;have bB:∀ I,Pq I w1 (w1.alloc (.cells #[LC q] 22)):=λI b _ ab=>zalaa w1 _ b ab;have D:(w1.alloc (.cells #[LC q] 22)).heap[p]? = some (MB t.kd t.tx t.n u):=by rw[zalaa w1 _ p (lt_of_heap eS.blk)];exact eS.blk
 have hrow:∀ k,u.ownBlock=some k->w.heap.size<=k:=λk N=>(Me eS.row k N).2;have hgrow:Below w.heap.size w1 aq:=((zalbd w.heap.size w1).alloc bv.size _).grown cS (by simp;have:=bv.size;omega) hrow
 have hset:Below w.heap.size w1 (aq.setCell (LD p 3) (.slice (some (LD g 0)) (t.kids.length+1) cap)):=hgrow.setCell (p:=(LD p 3)) eS.low _;refine⟨?_,a7.ap hset gK,bv.trans (Ap.of hset)⟩;refine aeb (w0:=w1.alloc (.cells #[LC q] 22)) eS.low D eS.own (LU.later (bB _) _ _ af) (by rw[zalam];exact hown) (by simp[hlen]) cS ?_
 rcases hg with hg|hg
 ·exact zalad hg
 ·exact zalal (by simp[hg])
