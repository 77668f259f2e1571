import Derived.Test.YticfnaiehdpbmaaGreatDoorFa14
import Derived.LaidEql
set_option maxRecDepth 100000
set_option maxHeartbeats 0
set_option linter.all false
namespace Go.Proofs.YticfnaiehdpbmaaGreatDoor
open Go.RowKit Go.Proofs.Tryz
structure j1 (w:Pe):Prop where
 hI:∃ t fr,w.heap[4]? = some (.cells Vp t fr)
 gJ:∃ t fr,w.heap[3]? = some (.cells U2 t fr)
def j1.fH {w w':Pe}(h:j1 w)(a:Pn w w'):j1 w':=by
 obtain⟨⟨e,d,c⟩,⟨f,g,b⟩⟩:=h;exact⟨⟨e,d,by rw[a.block _ (fI c)];exact c⟩,⟨f,g,by rw[a.block _ (fI b)];exact b⟩⟩
def atJ (a:Pe):Pn a (RW a):=QJ.alloc P7 _
def Ov (c:Pe)(a:List Tk)(f d:Nat)(g:Array Px)(i:Ends a)(o:0<a.length)(p:a.length<=3001)(m:c.heap[f]? = some (PZ g 144))(v:a.length<=d/\d<=maxLen/\g.size=d * 4/\g.toList.take (a.length * 4)=Sj a)(t:j1 c) :
  Pq 34 #[.slice (some (O7 f 0)) a.length d] c (r7 (Wh a (iN a KK)) c):=by
 have k:=atJ c;have l:=t.fH k;have n:=Vv (RW c) a f d g i o p (by rw[k.block _ (fI m)];exact m) v l.hI l.gJ
 have z:∀ b:gy,b.l=a->FC b (iN b.l KK):=λb e=>atK b (by rw[e];exact i) KK
 have s:=(Hr i o p).1
 cases j:Wh a (iN a KK) with
 | out=>exact absurd j s
 | f0 u w=>
  refine atL c a f d u w n λb q e r=>?_;exact Db
 | ok w u=>
  refine PT c a f d w u n λb q e r=>?_;exact Db
section
variable (b:Py) (w:Pe)
include b w
def PQ (a:3000<b.size):Pq 15 #[Pj b] w (p2 .bare w):=by
 have c:=OP b w a;clear a;go_enter func15,ntmps15;go_wp2_with fail;refine cm c ?_;rintro d e ⟨rfl,rfl⟩;go_wp2_with fail;exact Vm (v:=.tuple #[Ry,.iface 34 (O3 4)]) ⟨rfl,RP⟩
def ame (e:Int)(f:Nat)(h:Pq 33 #[Pj b] w (t7 (.f0 e f) w)):Pq 15 #[Pj b] w (p2 (.at e f) w):=by
 go_enter func15,ntmps15;go_wp2_with fail;refine cm h ?_;rintro k l ⟨c,rfl,d,a,g⟩;have j:=Y d;have i:=Y a;clear d a h;go_wp2_with fail;exact Vm (v:=.tuple #[Ry,.iface 150 (PL c 0)]) ⟨c,rfl,j.out,i.out,g⟩
def apH (d:List Tk)(n:Int)(q:Nat)(h:Pq 33 #[Pj b] w (t7 (.ok d) w))(I:0<d.length)(X:∀ (a:Pe) (f c:Nat) (e:Array Px),Pn w a->a.heap[f]? = some (PZ e 144)->(d.length<=c/\c<=maxLen/\e.size=c * 4/\e.toList.take (d.length * 4)=Sj d)->Pq 34 #[.slice (some (O7 f 0)) d.length c] a (r7 (.f0 n q) a)) :
  Pq 15 #[Pj b] w (p2 (.at n q) w):=by
 have r:=Y X;clear X;go_enter func15,ntmps15;go_wp2_with fail;refine cm h ?_;rintro t F ⟨v,rfl,C,a⟩
 rcases C.2 with H|⟨f,c,e,rfl,B,p,o,i,l,k⟩
 ·omega
 ·have z:=r.out F f c e a p ⟨o,i,l,k⟩;have g:=a;clear a B p o i l k h;go_wp2_with fail;refine cm z ?_;rintro t L ⟨m,rfl,a,j,s⟩;have E:=Y a;have D:=g.trans (s.mono g.size);have A:=Y (f9 g.size j);clear a j;go_wp2_with fail;exact Vm (v:=.tuple #[Ry,.iface 150 (PL m 0)]) ⟨m,rfl,E.out,A.out,D⟩
def atM (d:List Tk)(a:Tr)(ad:Nat)(h:Pq 33 #[Pj b] w (t7 (.ok d) w))(aj:0<d.length)(s:a.count<=90000)(X:∀ (e:Pe) (j c:Nat) (f:Array Px),Pn w e->e.heap[j]? = some (PZ f 144)->(d.length<=c/\c<=maxLen/\f.size=c * 4/\f.toList.take (d.length * 4)=Sj d)->Pq 34 #[.slice (some (O7 j 0)) d.length c] e (r7 (.ok a ad) e)) :
  Pq 15 #[Pj b] w (p2 (if 1500<a.count then .bare else .ok a) w):=by
 have I:=Y X;have S:=Y s;obtain⟨H,n⟩:=xH ((if 1500<a.count then rE.bare else .ok a));rw[<-n.out];clear X s;go_enter func15,ntmps15;go_wp2_with fail;refine cm h ?_;rintro D p ⟨v,rfl,W,i⟩
 rcases W.2 with m|⟨j,c,f,rfl,T,F,E,q,t,r⟩
 ·omega
 ·have O:=I.out p j c f i F ⟨E,q,t,r⟩;clear T F E q t r h;go_wp2_with fail;refine cm O ?_;rintro D ai ⟨l,rfl,m,g⟩;have A:=i.trans (g.mono i.size);have N:=atH p.heap.size a l ai m S.out;have ac:=Y i.size;clear g;go_wp2_with fail;refine cm N ?_;rintro D L ⟨rfl,B⟩;have C:=A.trans (B.mono A.size);have ah:Qa (gp w.heap.size) L a l:=Qa.mono (λz g _=>f9 ac.out g) _ _ (Qa.fH (I:=gp p.heap.size) (λz _ U=>B.block z U) _ _ m)
  by_cases k:1500<a.count
  ·have e:H=.bare:=by rw[n.out,fL k]
   have o:=Y e;clear e;have M:(1500:Int)<(a.count:Int):=O9;clear k;go_wp2_with fail;exact Vm (v:=.tuple #[Ry,.iface 34 (O3 4)]) (by rw[o.out];exact⟨rfl,C⟩)
  ·have e:H=.ok a:=by rw[n.out,fK k]
   have o:=Y e;clear e;have M:¬ (1500:Int)<(a.count:Int):=O9;clear k;go_wp2_with fail;exact Vm (v:=.tuple #[O5 l,QW]) (by rw[o.out];exact⟨l,rfl,ah,C⟩)
end
def jv (i f:List Py)(a:Py)(b:Pe)(A:hx i f b)(t:∀ n ∈ f,1<=n.size)(C:j1 b):Pq 15 #[Pj a] b (p2 (TD i f a) b):=by
 unfold TD
 by_cases l:3000<a.size
 ·rw[fL l];exact PQ a b l
 ·rw[fK l];have d:=amf i f a b O9 A t
  cases k:Vq i f a (P9 TU a 0) [] with
  | f0 m o=>rw[k] at d;exact ame a b m o d
  | ok c=>
   rw[k] at d;obtain⟨q,j,I⟩:=Mj t k;have r:c.length<=3001:=O9;obtain⟨F,v⟩:=Hr q j r;have g:=λ(p:Pe) (n B:Nat) (z:Array Px) (w:Pn b p) E D=>Ov p c n B z q j r E D (C.fH w);simp only
   cases e:Wh c (iN c KK) with
   | out=>exact absurd e F
   | f0 m o=>rw[e] at g;exact apH a b c m o d j g
   | ok u s=>
    rw[e] at g;have H:=v u s e;have L:=PJ (Ni KK) e;exact atM a b c u s d j O9 g
section
variable {P:Program} {bH:Region.Mode} {aU:Array Oper} {Q:Exit->Act->Pe->Prop} {S:Pe->Prop} {N:Nat}
def QN (P:Program)(bH:Region.Mode)(aU:Array Oper)(Q:Exit->Act->Pe->Prop)(S:Pe->Prop)(N:Nat):Nat->Array Bool->Act->Pe->Prop
 | 0,listed,a,b=>Region.ready bH aU listed=[]/\Q .normal a b
 | f+1,listed,a,b=>(Region.ready bH aU listed=[]->Q .normal a b)/\∀ c ∈ Region.ready bH aU listed,wpOp P aU Q c (λe d=>((listed.setIfInBounds c true).getD N false=false->S d)/\QN P bH aU Q S N f (listed.setIfInBounds c true) e d) a b
def Fw:∀ (a:Nat) (listed:Array Bool) (b:Act) (c:Pe),QN P bH aU Q S N a listed b c->wpAny P bH aU Q a listed b c
 | 0,_,_,_,h=>h
 | a+1,_,_,_,h=>⟨h.1,λg e=>wpOp_mono (λi d f=>Fw a _ i d f.2) (h.2 g e)⟩
def ax7 {b:Nat}{i M:Oper}{L:Px}(t:aU[b]? = some i)(ac:aU[N]? = some M)(hsel:∀ (a:Nat) (e:Oper) p g,aU[a]? = some e->e.op≠.select p g)
  (O:∀ g r s,Q (.panic g) (r.put i.dst L) s->Q (.panic g) r s) (ah:b≠N) (ad:∃ c ∈ M.after,Region.binds bH c=true/\c.on=b) :
  ∀ (k:Nat) (listed:Array Bool) (r:Act) (s:Pe),listed.getD N false=false ->
   (∀ a d,aU[a]? = some d->a≠b->listed.getD a true=false->(∀ c ∈ d.after,Region.binds bH c=true->c.on≠b)->i.apart aU d=true) ->
   b ∈ Region.ready bH aU listed->YieldsIf P aU S i L r->S s ->
   QN P bH aU Q S N k (listed.setIfInBounds b true) (r.put i.dst L) s->QN P bH aU Q S N (k+1) listed r s:=by
 have z{G}(h:G:=by
 induction k with
 | zero=>
  intro listed r s A _ e j n H;exact JK
 | succ k U=>
  intro listed r s A hfree e j n H;refine⟨λh=>(by rw[h] at e;cases e),λa m=>?_⟩
  by_cases f:a=b
  ·subst f;exact j.wpOp t n ⟨λ_=>n,H⟩
  ·obtain⟨I,d,q,l⟩:=ku.1 m;have D:=W (a:=a) (d:=d) e l;have T:a≠N:=λc=>by
    subst c;rw[ac] at q;cases q;obtain⟨c,F,E,o⟩:=ad;exact D c F E o
   have z{G}(h:G:=by
   have B:S w:=o.2.1 (by rw[hQ false T,hQ false ah];exact A)
   refine⟨λ_=>B,U (listed.setIfInBounds a true) R w (by rw[hQ false T];exact A) (λv ai u aj C X=>hfree v ai u aj ?_ X) (kv e (h6 f)) o.1 B ?_⟩
   ·exact x4
   ·rw[lN _ _ f];exact o.2.2):=O6 h;exact vE):=O6 h;exact Jf
def CW {b:Nat}{i:Oper}{M:Px}(t:aU[b]? = some i)(hsel:∀ (a:Nat) (e:Oper) p g,aU[a]? = some e->e.op≠.select p g)
  (O:∀ g k n,Q (.panic g) (k.put i.dst M) n->Q (.panic g) k n) (L:b≠N) :
  ∀ (r:Nat) (listed:Array Bool) (k:Act) (n:Pe),
   (∀ a d,aU[a]? = some d->a≠b->listed.getD a true=false->(∀ c ∈ d.after,Region.binds bH c=true->c.on≠b)->i.apart aU d=true) ->
   b ∈ Region.ready bH aU listed->YieldsIf P aU (λ_=>True) i M k->(listed.getD N false=false->S n) ->
   QN P bH aU Q S N r (listed.setIfInBounds b true) (k.put i.dst M) n->QN P bH aU Q S N (r+1) listed k n:=by
 have U:∀ {listed:Array Bool} {d:Oper},b ∈ Region.ready bH aU listed->(∀ c ∈ d.after,Region.binds bH c=true->listed.getD c.on false=true)->∀ c ∈ d.after,Region.binds bH c=true->c.on≠b:=by
  intro listed d e l c F E q;exact Di
 intro r
 induction r with
 | zero=>
  intro listed k n _ e j u H;refine⟨λh=>(by rw[h] at e;cases e),λa m=>?_⟩
  by_cases f:a=b
  ·subst f;exact j.wpOp t trivial ⟨λh=>u (by rw[hQ false L] at h;exact h),H⟩
  ·have s:=kv m f;rw[H.1] at s;cases s
 | succ r B=>
  intro listed k n hfree e j u H;refine⟨λh=>(by rw[h] at e;cases e),λa m=>?_⟩
  by_cases f:a=b
  ·subst f;exact j.wpOp t trivial ⟨λh=>u (by rw[hQ false L] at h;exact h),H⟩
  ·obtain⟨I,d,q,l⟩:=ku.1 m;have D:=U (d:=d) e l;have z{G}(h:G:=by
   have A:(listed.setIfInBounds a true).getD N false=false->S w:=λh=>o.2.1 (by rw[lN _ _ (h6 f),hQ false L];exact h)
   refine⟨A,B (listed.setIfInBounds a true) R w (λv F s T C E=>hfree v F s T ?_ E) (kv e (h6 f)) o.1 A ?_⟩
   ·exact x4
   ·rw[lN _ _ f];exact o.2.2):=O6 h;exact vE
def uh {cE:Oper}{bz:Nat}{listed:Array Bool}{u:Act}{w:Pe}(n:Nat)(v:Px)(eg:S w)
  (h:QN P bH aU Q S N bz (listed.setIfInBounds n true) (u.put cE.dst v) w) (bN:aU[n]? = some cE:=by rfl) (ef:∀ e u w,Q (.panic e) (u.put cE.dst v) w->Q (.panic e) u w:=by exact λ_ _ _ h=>h)
  (ay:Region.noSelect aU=true:=by kernel_rfl) (b8:Region.free bH aU listed n=true:=by kernel_rfl) (X:(Region.ready bH aU listed).contains n=true:=by kernel_rfl)
  (ei:n≠N:=by decide) (bi:YieldsIf P aU (λ_=>True) cE v u:=by exact fM ⟨by kernel_rfl,λ_ _=>by go_simp⟩):QN P bH aU Q S N (bz+1) listed u w:=
 CW bN (kX ay) ef ei bz listed u w (kZ bN b8) (by simpa using X) bi (λ_=>eg) h
def uz {cE:Oper}{bz:Nat}{listed:Array Bool}{u:Act}{w:Pe}(n:Nat)(v:Px)
  (h:QN P bH aU Q S N bz (listed.setIfInBounds n true) (u.put cE.dst v) w) (bN:aU[n]? = some cE:=by rfl) (ef:∀ e u w,Q (.panic e) (u.put cE.dst v) w->Q (.panic e) u w:=by exact λ_ _ _ h=>h)
  (ay:Region.noSelect aU=true:=by kernel_rfl) (b8:Region.free bH aU listed n=true:=by kernel_rfl) (X:(Region.ready bH aU listed).contains n=true:=by kernel_rfl)
  (ei:n≠N:=by decide) (ba:listed.getD N false=true:=by kernel_rfl) (bi:YieldsIf P aU (λ_=>True) cE v u:=by exact fM ⟨by kernel_rfl,λ_ _=>by go_simp⟩):QN P bH aU Q S N (bz+1) listed u w:=
 CW bN (kX ay) ef ei bz listed u w (kZ bN b8) (by simpa using X) bi (λm=>by rw[ba] at m;cases m) h
def ug {cE bo:Oper}{bz:Nat}{listed:Array Bool}{u:Act}{w:Pe}(n:Nat)(v:Px)(bN:aU[n]? = some cE)(bi:YieldsIf P aU S cE v u)(eg:S w)
  (h:QN P bH aU Q S N bz (listed.setIfInBounds n true) (u.put cE.dst v) w) (ef:∀ e u w,Q (.panic e) (u.put cE.dst v) w->Q (.panic e) u w:=by exact λ_ _ _ h=>h) (b3:aU[N]? = some bo:=by rfl)
  (ay:Region.noSelect aU=true:=by kernel_rfl) (b8:Region.free bH aU listed n=true:=by kernel_rfl) (X:(Region.ready bH aU listed).contains n=true:=by kernel_rfl)
  (ei:n≠N:=by decide) (dw:(bo.after.any λm=>Region.binds bH m&&m.on==n)=true:=by kernel_rfl) (cH:listed.getD N false=false:=by kernel_rfl):QN P bH aU Q S N (bz+1) listed u w:=by
 refine ax7 bN b3 (kX ay) ef ei ?_ bz listed u w cH (kZ bN b8) (by simpa using X) bi eg h;obtain⟨m,A,ak⟩:=Array.any_eq_true'.1 dw;exact⟨m,A,by simpa using ak⟩
def yB {b:Oper}{e:Nat}{a:Act}{d:Pe}{K:Act->Pe->Prop}(f:aU[e]? = some b)(h:if Region.wanted b (yielded aU a.tmps)=true then Oper.wp P b a d K Q else K (a.put b.dst undef) d):wpOp P aU Q e K a d:=by
 unfold wpOp;simp only[f]
 split
 ·rename_i c;rw[fL c] at h;exact .inl h
 ·rename_i c;rw[fK c] at h;exact h
def Rl {aL:Oper}{bz:Nat}{listed:Array Bool}{u:Act}{w:Pe}(n:Nat)
  (h:∀ c7:Act->Pe->Prop,Shut (∀ u w,((listed.setIfInBounds n true).getD N false=false->S w)->QN P bH aU Q S N bz (listed.setIfInBounds n true) u w->c7 u w)->if Region.wanted aL (yielded aU u.tmps)=true then Oper.wp P aL u w c7 Q else c7 (u.put aL.dst undef) w)
  (bA:aU[n]? = some aL:=by rfl) (X:Region.ready bH aU listed=[n]:=by kernel_rfl):QN P bH aU Q S N (bz+1) listed u w:=by
 refine⟨λaO=>(by rw[X] at aO;cases aO),λa8 e4=>?_⟩
 rw[X] at e4;obtain rfl:=gc.1 e4;exact yB bA (h _ λu w ad ak=>⟨ad,ak⟩)
def jS {aL ds:Oper}{bz:Nat}{listed:Array Bool}{u:Act}{w:Pe}(n a8:Nat)
  (h:∀ c7:Act->Pe->Prop,Shut (∀ u w,((listed.setIfInBounds n true).getD N false=false->S w)->QN P bH aU Q S N bz (listed.setIfInBounds n true) u w->c7 u w)->if Region.wanted aL (yielded aU u.tmps)=true then Oper.wp P aL u w c7 Q else c7 (u.put aL.dst undef) w)
  (eU:∀ c7:Act->Pe->Prop,Shut (∀ u w,((listed.setIfInBounds a8 true).getD N false=false->S w)->QN P bH aU Q S N bz (listed.setIfInBounds a8 true) u w->c7 u w)->if Region.wanted ds (yielded aU u.tmps)=true then Oper.wp P ds u w c7 Q else c7 (u.put ds.dst undef) w)
  (bA:aU[n]? = some aL:=by rfl) (eT:aU[a8]? = some ds:=by rfl) (X:Region.ready bH aU listed=[n,a8]:=by kernel_rfl):QN P bH aU Q S N (bz+1) listed u w:=by
 refine⟨λaO=>(by rw[X] at aO;cases aO),λcY db=>?_⟩
 rw[X] at db
 rcases gP.1 db with rfl|db
 ·exact yB bA (h _ λu w ad ak=>⟨ad,ak⟩)
 ·obtain rfl:=gc.1 db;exact yB eT (eU _ λu w ad ak=>⟨ad,ak⟩)
def ul {listed:Array Bool}{b:Act}{c:Pe}(a:Region.ready bH aU listed=[])(h:Q .normal b c):∀ d,QN P bH aU Q S N d listed b c
 | 0=>⟨a,h⟩
 | _+1=>⟨λ_=>h,by rw[a];simp⟩
def Qq {id:Nat}{a:Act}{b:Pe}(N:Nat)(S:Pe->Prop)(c:P.follows .mixedOrders=true)(h:QN P .any aU Q S N aU.size (Array.replicate aU.size false) a b.drew):(Code.region id aU true).wp P Q a b:=
 k5 c (Fw _ _ _ _ h)
def nW (bH:Region.Mode)(aU:Array Oper):Nat->Nat->Nat->Bool
 | 0,_,_=>false
 | c+1,N,b=>match aU[N]? with
  | none=>false
  | some d=>d.after.any λa=>Region.binds bH a&&(a.on==b||nW bH aU c a.on b)
def jh (bH:Region.Mode)(aU:Array Oper)(listed:Array Bool):Prop:=∀ (b:Nat) (c:Oper),aU[b]? = some c->listed.getD b false=true->∀ a ∈ c.after,Region.binds bH a=true->listed.getD a.on false=true
def Km {listed:Array Bool}{k:Nat}(i:jh bH aU listed):∀ (c f:Nat) (g:Oper),aU[f]? = some g->(∀ a ∈ g.after,Region.binds bH a=true->listed.getD a.on false=true)->nW bH aU c f k=true->listed.getD k false=true
 | 0,_,_,_,_,h=>by cases h
 | c+1,f,g,m,o,h=>by
  rw[nW,m] at h;obtain⟨a,n,d⟩:=Array.any_eq_true'.1 h;rw[kw,Bool.or_eq_true] at d;have j:=o a n d.1
  rcases d.2 with b|b
  ·rw[<-iH b];exact j
  ·
   cases e:aU[a.on]? with
   | none=>
    cases c with
    | zero=>cases b
    | succ c=>rw[nW,e] at b;cases b
   | some l=>exact Km i c a.on l e (i a.on l e j) b
def Oh {listed:Array Bool}{b c:Nat}(h:listed.getD c false=true):(listed.setIfInBounds b true).getD c false=true:=by
 by_cases d:b=c
 ·subst d;have a:b<listed.size:=by
   rcases hT b listed.size with a|a
   ·exact a
   ·rw[Array.getD_eq_getD_getElem?,jB a] at h;cases h
  simp[a]
 ·rw[hQ false d];exact h
def amv {listed:Array Bool}{c:Nat}{i:Oper}(l:jh bH aU listed)(k:aU[c]? = some i)(m:∀ a ∈ i.after,Region.binds bH a=true->listed.getD a.on false=true):jh bH aU (listed.setIfInBounds c true):=by
 intro g n b f a e d;refine Oh ?_
 by_cases j:c=g
 ·subst j;rw[k] at b;cases b;exact m a e d
 ·rw[hQ false j] at f;exact l g n b f a e d
def qz (bH:Region.Mode)(aU:Array Oper)(listed:Array Bool):Bool:=(List.range aU.size).all λb=>!(listed.getD b false)||(match aU[b]? with|some c=>c.after.all λa=>!(Region.binds bH a)||listed.getD a.on false|none=>true)
def apT {listed:Array Bool}(h:qz bH aU listed=true):jh bH aU listed:=by
 intro d k c j i g e;have f:d<aU.size:=(h8.1 c).1;have a:=List.all_eq_true.1 h d (nh.2 f);rw[j,c] at a;simp only[Bool.not_true,m6] at a;have b:=Array.all_eq_true'.1 a i g;rw[e] at b;simpa using b
def auk {b M:Nat}{i:Oper}{L:Px}(t:aU[b]? = some i)(hsel:∀ (a:Nat) (e:Oper) p g,aU[a]? = some e->e.op≠.select p g)
  (O:∀ g r s,Q (.panic g) (r.put i.dst L) s->Q (.panic g) r s) (ah:b≠N) (ad:nW bH aU M N b=true) :
  ∀ (k:Nat) (listed:Array Bool) (r:Act) (s:Pe),listed.getD N false=false->jh bH aU listed ->
   (∀ a d,aU[a]? = some d->a≠b->listed.getD a true=false->(∀ c ∈ d.after,Region.binds bH c=true->c.on≠b)->i.apart aU d=true) ->
   b ∈ Region.ready bH aU listed->YieldsIf P aU S i L r->S s ->
   QN P bH aU Q S N k (listed.setIfInBounds b true) (r.put i.dst L) s->QN P bH aU Q S N (k+1) listed r s:=by
 have z{G}(h:G:=by
 induction k with
 | zero=>
  intro listed r s E _ _ e j n H;exact JK
 | succ k ac=>
  intro listed r s E F hfree e j n H;refine⟨λh=>(by rw[h] at e;cases e),λa m=>?_⟩
  by_cases f:a=b
  ·subst f;exact j.wpOp t n ⟨λ_=>n,H⟩
  ·obtain⟨I,d,q,l⟩:=ku.1 m;have D:=W (a:=a) (d:=d) e l;have U:a≠N:=λc=>by
    subst c;have o:=Km F M a d q l ad;have B:=(ku.1 e).1
    cases A:listed[b]? with
    | none=>simp[A] at o
    | some x=>simp[A] at B o;rw[B] at o;cases o
   have z{G}(h:G:=by
   have T:S w:=o.2.1 (by rw[hQ false U,hQ false ah];exact E)
   refine⟨λ_=>T,ac (listed.setIfInBounds a true) R w (by rw[hQ false U];exact E) (amv F q l) (λv ai u aj C X=>hfree v ai u aj ?_ X) (kv e (h6 f)) o.1 T ?_⟩
   ·exact x4
   ·rw[lN _ _ f];exact o.2.2):=O6 h;exact vE):=O6 h;exact Jf
def uc {cE:Oper}{bz:Nat}{listed:Array Bool}{u:Act}{w:Pe}(n:Nat)(v:Px)(bN:aU[n]? = some cE)(bi:YieldsIf P aU S cE v u)(eg:S w)
  (h:QN P bH aU Q S N bz (listed.setIfInBounds n true) (u.put cE.dst v) w) (ef:∀ e u w,Q (.panic e) (u.put cE.dst v) w->Q (.panic e) u w:=by exact λ_ _ _ h=>h)
  (ay:Region.noSelect aU=true:=by kernel_rfl) (b8:Region.free bH aU listed n=true:=by kernel_rfl) (X:(Region.ready bH aU listed).contains n=true:=by kernel_rfl)
  (ei:n≠N:=by decide) (dw:nW bH aU aU.size N n=true:=by kernel_rfl) (cW:qz bH aU listed=true:=by kernel_rfl) (cH:listed.getD N false=false:=by kernel_rfl):QN P bH aU Q S N (bz+1) listed u w:=
 auk bN (kX ay) ef ei dw bz listed u w cH (apT cW) (kZ bN b8) (by simpa using X) bi eg h
variable {cE:Oper}{bz:Nat}{listed:Array Bool}{u:Act}{w M:Pe}
def up (n e aL:Nat)(eg:S w)
  (h:QN P bH aU Q S N bz (listed.setIfInBounds n true) (u.put cE.dst (PL e aL)) w) (bN:aU[n]? = some cE:=by rfl) (ef:∀ fG u w,Q (.panic fG) (u.put cE.dst (PL e aL)) w->Q (.panic fG) u w:=by exact λ_ _ _ h=>h)
  (ay:Region.noSelect aU=true:=by kernel_rfl) (b8:Region.free bH aU listed n=true:=by kernel_rfl) (X:(Region.ready bH aU listed).contains n=true:=by kernel_rfl)
  (ei:n≠N:=by decide) (bi:YieldsIf P aU (λ_=>True) cE (PL e aL) u:=by exact fM ⟨by kernel_rfl,λ_ _=>by go_simp⟩):QN P bH aU Q S N (bz+1) listed u w:=
 uh n _ eg h bN ef ay b8 X ei bi
def uk (n:Nat){v:Px}{e aL:Nat}(U:M.cell? (O7 e aL)=some v)(eg:Pn M w)
  (h:QN P bH aU Q (λL=>Pn M L) N bz (listed.setIfInBounds n true) (u.put cE.dst v) w) (bN:aU[n]? = some cE:=by rfl) (ef:∀ e u w,Q (.panic e) (u.put cE.dst v) w->Q (.panic e) u w:=by exact λ_ _ _ h=>h)
  (ay:Region.noSelect aU=true:=by kernel_rfl) (b8:Region.free bH aU listed n=true:=by kernel_rfl) (X:(Region.ready bH aU listed).contains n=true:=by kernel_rfl)
  (ei:n≠N:=by decide) (dw:nW bH aU aU.size N n=true:=by kernel_rfl) (cW:qz bH aU listed=true:=by kernel_rfl) (cH:listed.getD N false=false:=by kernel_rfl)
  (ai:Region.wanted cE (yielded aU u.tmps)=true:=by kernel_rfl) (bi:∀ L:Pe,L.cell? (O7 e aL)=some v->(execOp u.eval cE).run P L=.ok (.value v) L:=by intro L aO;go_simp):QN P bH aU Q (λL=>Pn M L) N (bz+1) listed u w:=
 uc n v bN (fM ⟨ai,λL i=>bi L (PN i U)⟩) eg h ef ay b8 X ei dw cW cH
def jN (n:Nat){b2 f t:Px}{e:Nat}{R:Prop}(U:M.cell? (O7 e 0)=some b2/\M.cell? (O7 e 1)=some f/\M.cell? (O7 e 2)=some t/\R)(eg:Pn M w)
  (h:QN P bH aU Q (λL=>Pn M L) N bz (listed.setIfInBounds n true) (u.put cE.dst (.agg #[b2,f,t])) w) (bN:aU[n]? = some cE:=by rfl) (ef:∀ e u w,Q (.panic e) (u.put cE.dst (.agg #[b2,f,t])) w->Q (.panic e) u w:=by exact λ_ _ _ h=>h)
  (ay:Region.noSelect aU=true:=by kernel_rfl) (b8:Region.free bH aU listed n=true:=by kernel_rfl) (X:(Region.ready bH aU listed).contains n=true:=by kernel_rfl)
  (ei:n≠N:=by decide) (dw:nW bH aU aU.size N n=true:=by kernel_rfl) (cW:qz bH aU listed=true:=by kernel_rfl) (cH:listed.getD N false=false:=by kernel_rfl)
  (ai:Region.wanted cE (yielded aU u.tmps)=true:=by kernel_rfl) (bi:∀ L:Pe,L.cell? (O7 e 0)=some b2->L.cell? (O7 e 1)=some f->L.cell? (O7 e 2)=some t->(execOp u.eval cE).run P L=.ok (.value (.agg #[b2,f,t])) L:=by intro L aO ad ak;go_simp):QN P bH aU Q (λL=>Pn M L) N (bz+1) listed u w:=
 uc n _ bN (fM ⟨ai,λL i=>bi L (PN i U.1) (PN i U.2.1) (PN i U.2.2.1)⟩) eg h ef ay b8 X ei dw cW cH
def kT (n:Nat){b2 f t dx:Px}{e:Nat}{R:Prop}(U:M.cell? (O7 e 0)=some b2/\M.cell? (O7 e 1)=some f/\M.cell? (O7 e 2)=some t/\M.cell? (O7 e 3)=some dx/\R)(eg:Pn M w)
  (h:QN P bH aU Q (λL=>Pn M L) N bz (listed.setIfInBounds n true) (u.put cE.dst (.agg #[b2,f,t,dx])) w) (bN:aU[n]? = some cE:=by rfl) (ef:∀ e u w,Q (.panic e) (u.put cE.dst (.agg #[b2,f,t,dx])) w->Q (.panic e) u w:=by exact λ_ _ _ h=>h)
  (ay:Region.noSelect aU=true:=by kernel_rfl) (b8:Region.free bH aU listed n=true:=by kernel_rfl) (X:(Region.ready bH aU listed).contains n=true:=by kernel_rfl)
  (ei:n≠N:=by decide) (dw:nW bH aU aU.size N n=true:=by kernel_rfl) (cW:qz bH aU listed=true:=by kernel_rfl) (cH:listed.getD N false=false:=by kernel_rfl)
  (ai:Region.wanted cE (yielded aU u.tmps)=true:=by kernel_rfl) (bi:∀ L:Pe,L.cell? (O7 e 0)=some b2->L.cell? (O7 e 1)=some f->L.cell? (O7 e 2)=some t->L.cell? (O7 e 3)=some dx->(execOp u.eval cE).run P L=.ok (.value (.agg #[b2,f,t,dx])) L:=by intro L aO ad ak bZ;go_simp):QN P bH aU Q (λL=>Pn M L) N (bz+1) listed u w:=
 uc n _ bN (fM ⟨ai,λL i=>bi L (PN i U.1) (PN i U.2.1) (PN i U.2.2.1) (PN i U.2.2.2.1)⟩) eg h ef ay b8 X ei dw cW cH
def UC {id:Nat}(N:Nat)(h:Pn w w.drew->QN P .any aU Q (λL=>Pn w L) N aU.size (Array.replicate aU.size false) u w.drew)(db:P.follows .mixedOrders=true:=by kernel_rfl):(Code.region id aU true).wp P Q u w:=
 Qq N _ db (h RP.drew)
def TQ (h:Q .normal u w)(bz:Nat)(X:Region.ready bH aU listed=[]:=by kernel_rfl):QN P bH aU Q S N bz listed u w:=ul X h bz
def ko {K:Act->Pe->Prop}{L:Act->Pe->Prop}(c:Shut (∀ u w,(listed.getD N false=false->S w)->L u w->K u w))(h:L u w)(O:listed.getD N false=true:=by kernel_rfl):K u w:=
 c.out u w (λm=>by rw[O] at m;cases m) h
def uaZ {aL:Oper}{L:Prop}(n:Nat)(j:L)(bA:aU[n]? = some aL:=by rfl)(X:Region.ready bH aU listed=[n]:=by kernel_rfl)
    (h:Kk L->∀ K:Act->Pe->Prop,Shut (∀ u w,((listed.setIfInBounds n true).getD N false=false->S w)->QN P bH aU Q S N bz (listed.setIfInBounds n true) u w->K u w)->if Region.wanted aL (yielded aU u.tmps)=true then Oper.wp P aL u w K Q else K (u.put aL.dst undef) w:=by
      intro j K fk;go_simp;exact ko fk j.o):QN P bH aU Q S N (bz+1) listed u w:=
  Rl n (h ⟨j⟩) bA X
end
inductive Ad where
 | mk (p:Nat) (kd:Int) (tx:Py) (n:Int) (ks:List Ad)
def Ad.p:Ad->Nat | .mk a _ _ _ _=>a
def Ad.kd:Ad->Int | .mk _ a _ _ _=>a
def Ad.tx:Ad->Py | .mk _ _ a _ _=>a
def Ad.ks:Ad->List Ad | .mk _ _ _ _ a=>a
mutual
def Ad.tr:Ad->Tr
 | .mk _ a d c b=>.mk a d c (Ad.lU b)
def Ad.lU:List Ad->List Tr
 | []=>[]
 | a::b=>a.tr::Ad.lU b
end
mutual
def Ad.VE:Ad->List Nat
 | .mk b _ _ _ a=>b::Ad.Ui a
def Ad.Ui:List Ad->List Nat
 | []=>[]
 | a::b=>a.VE++Ad.Ui b
end
mutual
def Tf (a:Nat->Prop)(b:Pe):Ad->Prop
 | .mk d e g f c=>Qa a b (.mk e g f (Ad.lU c)) d/\a d/\(∃ i,b.heap[d]? = some (Qc e g f i)/\q2 a b i (c.map Ad.p))/\RX a b c
def RX (a:Nat->Prop)(b:Pe):List Ad->Prop
 | []=>True
 | c::d=>Tf a b c/\RX a b d
end
def RX.mem {d:Nat->Prop}{e:Pe}:∀ (a:List Ad),RX d e a->∀ b ∈ a,Tf d e b
 | [],_,_,h=>absurd h P7
 | x::a,h,b,c=>by
  rw[RX] at h
  rcases gP.1 c with rfl|c
  ·exact h.1
  ·exact RX.mem a h.2 b c
mutual
def Tf.fH {I:Nat->Prop}{w w':Pe}(a:Vh I w w'):∀ d:Ad,Tf I w d->Tf I w' d
 | .mk j l n m i,h=>by
  rw[Tf] at h ⊢;obtain⟨g,e,⟨k,c,b⟩,f⟩:=h;exact⟨Qa.fH a _ _ g,e,⟨k,by rw[a j e (fI c)];exact c,Rt a b.2 b.1,b.2⟩,RX.fH a i f⟩
def RX.fH {I:Nat->Prop}{w w':Pe}(b:Vh I w w'):∀ a:List Ad,RX I w a->RX I w' a
 | [],_=>by rw[RX];trivial
 | c::a,h=>by
  rw[RX] at h ⊢;exact⟨Tf.fH b c h.1,RX.fH b a h.2⟩
end
mutual
def Tf.mono {f J:Nat->Prop}{d:Pe}(a:∀ b,f b->b<d.heap.size->J b):∀ g:Ad,Tf f d g->Tf J d g
 | .mk n p r q m,h=>by
  rw[Tf] at h ⊢;obtain⟨l,k,⟨o,e,b⟩,j⟩:=h;exact⟨Qa.mono a _ _ l,a n k (fI e),⟨o,e,b.1,λc i=>a c (b.2 c i) (QD b.1 c i).1⟩,RX.mono a m j⟩
def RX.mono {d J:Nat->Prop}{c:Pe}(e:∀ b,d b->b<c.heap.size->J b):∀ a:List Ad,RX d c a->RX J c a
 | [],_=>by rw[RX];trivial
 | b::a,h=>by
  rw[RX] at h ⊢;exact⟨Tf.mono e b h.1,RX.mono e a h.2⟩
end
def tD:∀ a:List Ad,Ad.lU a=a.map Ad.tr
 | []=>by rw[Ad.lU];rfl
 | b::a=>by rw[Ad.lU,tD a];rfl
def Ad.s0 (a:Ad):a.tr.kd=a.kd/\a.tr.tx=a.tx/\a.tr.fJ=a.ks.map Ad.tr:=by
 cases a with
 | mk e b f d c=>rw[Ad.tr,tD];exact⟨rfl,rfl,rfl⟩
def Tf.parts {b:Nat->Prop}{c:Pe}{a:Ad}(h:Tf b c a):∀ d ∈ a.ks,Tf b c d:=by
 cases a with
 | mk i f j g e=>rw[Tf] at h;exact RX.mem e h.2.2.2
mutual
def Qa.ad {e:Nat->Prop}{l:Pe}:∀ (k:Tr) (c:Nat),Qa e l k c->∃ b:Ad,b.tr=k/\b.p=c/\Tf e l b/\b.VE.Nodup/\∀ d ∈ b.VE,e d
 | .mk t z v u,c,h=>by
  have s:=h;rw[Qa] at h;obtain⟨f,A,w,a,o,m⟩:=h;obtain⟨i,j,n,r,q,g⟩:=PE.VE u w m;refine⟨.mk c t z v i,by rw[Ad.tr,tD,j],rfl,?_,?_,?_⟩
  ·rw[Tf,n,tD,j];exact⟨s,f,⟨A,a,o⟩,RX.mono (λd a _=>a.1) i r⟩
  ·rw[Ad.VE,List.nodup_cons];exact⟨λp=>(g c p).2 rfl,q⟩
  ·rw[Ad.VE];intro d a
   rcases gP.1 a with rfl|a
   ·exact f
   ·exact(g d a).1
def PE.VE {f:Nat->Prop}{k:Pe}:∀ (e:List Tr) (d:List Nat),PE f k e d->∃ b:List Ad,b.map Ad.tr=e/\b.map Ad.p=d/\RX f k b/\(Ad.Ui b).Nodup/\∀ c ∈ Ad.Ui b,f c
 | [],d,h=>by
  rw[PE] at h;subst h;exact⟨[],rfl,rfl,by rw[RX];trivial,by rw[Ad.Ui];exact List.nodup_nil,by rw[Ad.Ui];intro c a;cases a⟩
 | B::e,d,h=>by
  rw[PE] at h;obtain⟨A,s,C,rfl,v,l⟩:=h;obtain⟨i,u,m,n,o,j⟩:=Qa.ad B A v;obtain⟨b,r,q,t,z,g⟩:=PE.VE e s l;refine⟨i::b,by rw[gW,u,r],by rw[gW,m,q],?_,?_,?_⟩
  ·rw[RX];exact⟨Tf.mono (λc a _=>a.1) i n,RX.mono (λc a _=>a.1) b t⟩
  ·rw[Ad.Ui,mW];refine⟨o,z,λx p y w D=>?_⟩;have E:=(j x p).2;have F:=(g y w).2;omega
  ·rw[Ad.Ui];intro c a
   rcases gU.1 a with a|a
   ·exact(j c a).1
   ·exact(g c a).1
end
section
variable {c:Nat->Prop} {b:Pe} {a:Ad} (h:Tf c b a)
include c b a h
def Tf.cells:c a.p/\a.p<b.heap.size/\b.cell? (O7 a.p 0)=some (O3 a.kd)/\b.cell? (O7 a.p 1)=some (Pj a.tx) /\
  ∃ d,b.cell? (O7 a.p 3)=some d/\q2 c b d (a.ks.map Ad.p):=by
 cases a with
 | mk o l p n m=>
  rw[Tf] at h;obtain⟨_,g,⟨d,e,f⟩,_⟩:=h;obtain⟨i,j,_,k,_⟩:=fZ e;exact⟨g,fI e,i,j,d,k,f⟩
def Tf.nat:Qa c b a.tr a.p:=by
 cases a with
 | mk g d i f e=>rw[Tf] at h;rw[Ad.tr];exact h.1
end
mutual
def Ad.kg:Ad->Nat
 | .mk _ _ _ _ a=>1+Ad.ix a
def Ad.ix:List Ad->Nat
 | []=>0
 | a::b=>a.kg+Ad.ix b
end
mutual
def Ad.ye:∀ a:Ad,a.tr.count=a.kg
 | .mk e c f d b=>by rw[Ad.tr,fW,Ad.kg,Ad.CJ b]
def Ad.CJ:∀ a:List Ad,Tr.f1 (Ad.lU a)=Ad.ix a
 | []=>by rw[Ad.lU,Ad.ix,PY]
 | b::a=>by rw[Ad.lU,PS,Ad.ix,Ad.ye b,Ad.CJ a]
end
mutual
def Ad.BD:∀ a:Ad,a.VE.length=a.kg
 | .mk e c f d b=>by rw[Ad.VE,gL,Ad.GC b,Ad.kg,Nat.add_comm]
def Ad.GC:∀ a:List Ad,(Ad.Ui a).length=Ad.ix a
 | []=>by rw[Ad.Ui,Ad.ix];rfl
 | b::a=>by rw[Ad.Ui,gj,Ad.BD b,Ad.GC a,Ad.ix]
end
def GJ:∀ b a:List Ad,Ad.Ui (b++a)=Ad.Ui b++Ad.Ui a
 | [],a=>by rw[Ad.Ui];rfl
 | x::b,a=>by rw[hS,Ad.Ui,Ad.Ui,GJ b a,iq]
def JX (a:Ad):1<=a.kg:=by cases a with|mk e b f d c=>rw[Ad.kg];omega
def JG:∀ a:List Ad,a.length<=Ad.ix a
 | []=>f3 _
 | b::a=>by
  have d:=JX b;have c:=JG a;rw[Ad.ix,gL];omega
def E9:∀ (b:List Ad) (a:Ad),a ∈ b->a.kg<=Ad.ix b
 | [],_,h=>absurd h P7
 | x::b,a,h=>by
  rw[Ad.ix]
  rcases gP.1 h with rfl|h
  ·omega
  ·have:=E9 b a h;omega
def Kf (a:Ad):a.kg=1+Ad.ix a.ks:=by cases a with|mk e b f d c=>rw[Ad.kg];rfl
def rY (a:Ad):a.VE=a.p::Ad.Ui a.ks:=by cases a with|mk e b f d c=>rw[Ad.VE];rfl
mutual
def wk {α:Type}(a:α->Ad->α × Bool):α->Ad->α
 | c,.mk f d g e b=>if (a c (.mk f d g e b)).2 then jy a (a c (.mk f d g e b)).1 b else (a c (.mk f d g e b)).1
def jy {α:Type}(b:α->Ad->α × Bool):α->List Ad->α
 | a,[]=>a
 | a,c::d=>jy b (wk b a c) d
end
def OV {α:Type}(b:α->Ad->α × Bool)(c:α)(a:Ad):wk b c a=if (b c a).2 then jy b (b c a).1 a.ks else (b c a).1:=by
 cases a with
 | mk g d i f e=>rw[wk];rfl
def Kd {α:Type}(c:α->Ad->α × Bool):∀ (d a:List Ad) (b:α),jy c b (d++a)=jy c (jy c b d) a
 | [],a,b=>by rw[hR,jy]
 | e::d,a,b=>by rw[hS,jy,jy,Kd c d a]
def auo {α:Type}(c:α->Ad->α × Bool)(b:List Ad)(d:α)(a:Nat)(e:a<b.length):jy c d (b.take (a+1))=wk c (jy c d (b.take a)) b[a]:=by
 rw[g3 e,Kd,jy,jy]
def aKs {α:Type}(C:Nat)(x:Px)(D:Nat->Prop)(l:Pe->Pe->Prop)(A:α->Pe->Prop)(f:α->Ad->α × Bool)(P:α->List Ad->Prop)
  (bY:WM C) (bW:∀ b:Pe,(binOp .eql 47 (.func (.func C) #[] #[x]) .nilFunc).run prog b=.ok (Pv false) b)
  (aI:∀ u N e,l u N->l N e->l u e) (aG:∀ w k,l w k->Vh D w k/\w.heap.size<=k.heap.size)
  (hP:∀ u a g,P u (a::g)->P (f u a).1 ((if (f u a).2 then a.ks else [])++g))
  (aS:∀ u a g w,P u (a::g)->A u w->Tf D w a->Pq C #[O5 a.p,x] w λm k=>m=PK (Pv (f u a).2)/\A (f u a).1 k/\l w k) :
  ∀ (q:Nat) (a:Ad),a.kg<=q->q<=90000->∀ (g:List Ad) (u:α) (w:Pe),P u (a::g)->A u w->Tf D w a ->
   Pq 36 #[O5 a.p,.func (.func C) #[] #[x]] w λm k=>m=PK (.tuple #[])/\A (wk f u a) k/\P (wk f u a) g/\l w k:=by
 intro q
 induction q with
 | zero=>intro a F;have:=JX a;omega
 | succ q aV=>
  intro a F aN g u w ai bN U;obtain⟨aD,aW,_,_,v,M,ac,bj⟩:=U.cells;have W:(a.ks.map Ad.p).length=a.ks.length:=gu _;obtain⟨ua,uc,br⟩:=TK ac;subst br;rw[W] at M;have d:=aS u a g w ai bN U;have z:=Y (hP u a g ai);have o:=Y (OV f u a);have bI:=Y U.parts;have bM:=Y bj;have bE:=Y (aV);have bL:=Y F;have bq:=Y aN;have aX:=Y M;have am:=Y aW;have aC:=Y aD;have aK:=Y W;have bo:=Y aI;have aF:=Y aG
  have bZ:a.ks.length<=90000:=by have ad:=JG a.ks;have ak:=Kf a;omega
  clear aS hP bN bj aV F aN M aW aD W aI aG ai;obtain⟨aj,aQ⟩:=xE a.p;rw[<-aQ] at d aX am aC ⊢;clear aQ
  cases E:(f u a).2 with
  | false=>
   rw[E] at d z o;clear E;have b{G}(h:G:=by
   have ah:=Y s;have I:=Y i;clear s i;go_wp2_with fail;exact Vm (v:=.tuple #[]) ⟨rfl,by rw[o.out];exact ah.out,by rw[o.out];exact z.out,I.out⟩):=O6 h;exact tg
  | true=>
   rw[E] at d z o;clear E;obtain⟨T,i⟩:=xE ((f u a).1);rw[<-i] at d z o;clear i;have b{G}(h:G:=by
   obtain⟨bF,aJ⟩:=O4 aF _ _ i;have bU:au.cell? (O7 aj 3)=some (.slice ua a.ks.length uc):=by rw[gs (w:=w) (bF aj aC.out am.out)];exact O4 aX
   have bR:aj<au.heap.size:=hn am.out aJ;have ah:=Y s;have I:=Y i;clear s i aJ;go_wp2_with fail
   go_loopw [23] (λn wr=>∃ j:Nat,j<=a.ks.length/\n=O3 j/\A (jy f T (a.ks.take j)) wr/\P (jy f T (a.ks.take j)) (a.ks.drop j++g)/\l w wr) (λn _=>a.ks.length - (intOf n).toNat)
   case atStart=>exact⟨0,f3 _,rfl,by rw[jk,jy];exact ah.out,by rw[jk,jy];exact z.out,I.out⟩
   case round=>
    obtain⟨j,bO,rfl,be,r,a6⟩:=hrel;have bn:=Y be;have bf:=Y r;have ap:=Y a6;clear be a6 r
    by_cases t:j<a.ks.length
    ·obtain⟨p,bT,B,bc⟩:=TG ac (by rw[aK.out];omega)
     have b{G}(h:G:=by
     have bu:j<(a.ks.map Ad.p).length:=by rw[aK.out];exact t
     have bG:=O4 bM p rfl;have aZ:=(QD ac p rfl).1;obtain⟨a7,aY⟩:=O4 aF _ _ ap.out;obtain⟨bK,H⟩:=xE ((a.ks[j]).p);have bx:wr.cell? (O7 p j)=some (O5 bK):=by
      rw[gs (w:=w) (a:=(O7 p j)) (a7 p bG aZ),bc j bu,j6,H]
     have bD:Tf D wr a.ks[j]:=Tf.fH a7 _ (O4 bI _ (gT t));have bQ:p<wr.heap.size:=hn aZ aY;have bh:(a.ks[j]).kg<=q:=by
      have ad:=E9 a.ks _ (gT t);have ak:=Kf a;have bS:=O4 bL;omega
     have r:=O4 bf;rw[iD t,hS] at r;have d:=bE.out a.ks[j] bh (by have:=O4 bq;omega) (a.ks.drop (j+1)++g) _ wr r bn.out bD
     have bm:=Y (auo f a.ks T j t);rw[<-H] at d;have bV:(j:Int)<(a.ks.length:Int):=O9;clear bc bh r aY H;go_wp2_with fail;refine cm d ?_;rintro m b0 ⟨rfl,a1,ax,ba⟩;have bC:=Y a1;have bv:=Y ax;have bB:=Y (O4 bo _ _ _ ap.out ba);clear a1 ba ax bx;go_wp2
     go_roundw
     case rel=>exact⟨j+1,by omega,by go_num,by rw[bm.out];exact bC.out,by rw[bm.out];exact bv.out,bB.out⟩
     case measure=>simp[intOf];omega):=O6 h;exact UM
    ·have p:j=a.ks.length:=O9;subst p;go_wp2
     go_end0
     have ad:=O4 bn;have ak:=O4 bf;rw[gO] at ad ak;rw[ll,hR] at ak;rw[o.out];exact⟨rfl,ad,ak,ap.out⟩):=O6 h;exact tg
def tz (a:(Nat × Px) × Nat):MapEntry:={ key:=O5 a.1.1,val:=a.1.2,born:=a.2 }
def X9 (a:List (Nat × Px)):Array MapEntry:=((a.zipIdx).map tz).toArray
def Cl (a:Pe)(c:Nat):Prop:=∃ b d,a.heap[c]? = some (PZ b d)
def aMF (a:Pe):(sizeOf 40).run prog a=.ok 4 a:=by kernel_rfl
def aCD {a:Pe}{b c:Nat}(f:Cl a b)(e:Cl a c):(Op.equal 22 (O5 b) (O5 c)).run prog a=.ok (decide (b=c)) a:=by
 obtain⟨k,m,g⟩:=f;obtain⟨l,n,d⟩:=e;have j:=k7
 show (Op.equalIn (9999+1) 22 (O5 b) (O5 c)).run prog a=_
 rw[Op.equalIn,gR,ho j a];simp only[hM,gR,aMF]
 by_cases h:b=c
 ·subst h;rw[g4 rfl];exact run_sameAddr_same _ _
 ·rw[gN h];exact run_sameAddr_other a (a:=(O7 b 0)) (b:=(O7 c 0)) (λi=>h (by cases i;rfl)) g d
def DW {c:Pe}{e:Nat}(g:Cl c e):∀ (b:List (Nat × Px)) (f d:Nat),(∀ a ∈ b,Cl c a.1) ->
  ∃ i,(Instr.findAsking 22 (O5 e) ((b.zipIdx f).map tz) d).run prog c=.ok i c/\i.map (·.2)=(b.find? (λa=>decide (e=a.1))).map (·.2)
 | [],_,_,_=>⟨none,rfl,rfl⟩
 | a::b,f,d,h=>by
  have k:=aCD g (h a P7);simp only[k9,gW,Instr.findAsking,tz,gR,k,hM,kk]
  cases l:decide (e=a.1)
  ·simp only[iI,iC];exact DW g b (f+1) (d+1) (λa j=>h a (by simp[j]))
  ·exact⟨some (d,a.2),rfl,rfl⟩
def DF {a:Pe}{e:Nat}(i:Cl a e)(b:List (Nat × Px))(h:∀ c ∈ b,Cl a c.1) :
  ∃ d,(Instr.findKey 22 (O5 e) (X9 b).toList).run prog a=.ok d a/\d.map (·.2)=(b.find? (λc=>decide (e=c.1))).map (·.2):=by
 have f:=k7
 cases b with
 | nil=>
  refine⟨none,?_,rfl⟩;unfold Instr.findKey;rw[gR,ho f a];rfl
 | cons c b=>
  obtain⟨d,j,g⟩:=DW i (c::b) 0 0 h;refine⟨d,?_,g⟩;unfold Instr.findKey;rw[gR,ho f a];simp only[hM,X9];exact j
def Z2 (a:List (Nat × Px))(b:Nat)(c:Px):(X9 a).push { key:=O5 b,val:=c,born:=a.length }=X9 (a++[(b,c)]):=by
 unfold X9;rw[lJ,gM];simp[tz,List.zipIdx]
def amc (d:Nat)(c:List (Nat × Px))(b:Nat)(j:Px)(a:Pe)(g:a.heap[d]? = some (.map (X9 c) c.length))(r:Cl a b)(t:∀ f ∈ c,Cl a f.1)(l:c.find? (λf=>decide (b=f.1))=none) :
  (Instr.mapUpdate 80 (.map (some d)) (O5 b) j).run prog a=.ok () (Rn a d (.map (X9 (c++[(b,j)])) (c.length+1))):=by
 obtain⟨k,q,e⟩:=DF r c t;have o:=k7;have p:=underlying80;have i{G}(h:G:=by
 have i{G}(h:G:=by
 have s:(getObj d).run prog a=.ok (.map (X9 c) c.length) a:=by simp[getObj,Sem.run,g]
 unfold Instr.mapUpdate;rw[gR,ho p a];simp only[hM,gR,s,n,q];rw[Z2];simp[setObj,Sem.run,g,Rn]):=O6 h;exact AM):=O6 h;exact vR
def Pt (a:List (Nat × Px)):(X9 a).size=a.length:=by simp[X9]
def Xw (b:List Nat):List (Nat × Px):=b.zipIdx.map λa=>(a.1,O3 (a.2:Int))
def vS (a:List Nat):(Xw a).length=a.length:=by simp[Xw]
def RE (a:List Nat)(b:Nat):Xw (a++[b])=Xw a++[(b,O3 (a.length:Int))]:=by
 simp[Xw,lJ,List.zipIdx]
def yr {b:List Nat}{a:Nat × Px}(h:a ∈ Xw b):a.1 ∈ b:=by
 unfold Xw at h;obtain⟨x,c,rfl⟩:=hy.1 h;obtain⟨d,e⟩:=x;have:=List.mem_zipIdx c;simp only;rw[this.2.2];exact gT _
def L3 {c:Nat}{b:List Nat}(h:c ∉ b):(Xw b).find? (λa=>decide (c=a.1))=none:=by
 rw[lz];intro a d;have:=yr d;simp only[decide_eq_true_eq];rintro rfl;exact h this
structure qp (mb nb:Nat)(l:List Nat)(w:Pe):Prop where
 word:w.heap[nb]? = some (PZ #[.map (some mb)] 80)
 map:w.heap[mb]? = some (.map (X9 (Xw l)) l.length)
 vx:∀ p ∈ l,Cl w p
def rk (a:List Nat)(b:Ad):List Nat × Bool:=(a++[b.p],true)
mutual
def B7:∀ (d:Ad) (a:List Nat),wk rk a d=a++d.VE
 | .mk c e g f b,a=>by
  rw[wk,Ad.VE];simp only[rk,hz];rw[show (Ad.mk c e g f b).p=c from rfl,Au b,iq];rfl
def Au:∀ (b:List Ad) (a:List Nat),jy rk a b=a++Ad.Ui b
 | [],a=>by rw[jy,Ad.Ui,i8]
 | c::b,a=>by rw[jy,B7 c,Au b,Ad.Ui,iq]
end
def Tf.cl {d:Nat->Prop}{b:Pe}{a:Ad}(h:Tf d b a):Cl b a.p:=by
 cases a with
 | mk i e j g f=>
  rw[Tf] at h;obtain⟨_,_,⟨k,c,_⟩,_⟩:=h;exact⟨_,_,c⟩
def ajR {d f:Nat}{b:List Nat}{c:Ad}{m:Nat->Prop}{a:Pe}(e:qp d f b a)(n:Tf m a c)(j:c.p ∉ b) :
  Pq 73 #[O5 c.p,PL f 0] a λk l=>k=PK (Pv true)/\l=Rn a d (.map (X9 (Xw (b++[c.p]))) (b.length+1)):=by
 have q:a.cell? (O7 f 0)=some (.map (some d)):=by rw[cell_of e.word];rfl
 have i:=amc d (Xw b) c.p (O3 (b.length:Int)) a (by rw[vS];exact e.map) n.cl (λk o=>e.vx _ (yr o)) (L3 j)
 rw[vS,<-RE] at i;have p:(Builtin.len_ #[80] 3 #[.map (some d)]).run prog a=.ok (O3 (b.length:Int)) a:=by
  simp[Builtin.len_,getObj,Sem.run,e.map,Pt,vS,goInt]
 obtain⟨r,g⟩:=xE c.p;rw[<-g] at i ⊢;clear j g;go_enter func73,ntmps73;go_wp2;go_ret;exact⟨rfl,rfl⟩
def Cl.set {b:Pe}{c d:Nat}{k:Obj}{i:Array MapEntry}{j:Nat}(h:Cl b d)(e:b.heap[c]? = some (.map i j)):Cl (Rn b c k) d:=by
 obtain⟨f,l,a⟩:=h;refine⟨f,l,?_⟩;rw[Rq (λg=>by rw[g,e] at a;cases a)]
 exact a
def qp.next {c d:Nat}{b:List Nat}{e:Nat}{f:Pe}(h:qp c d b f)(g:Cl f e)(i:d≠c):qp c d (b++[e]) (Rn f c (.map (X9 (Xw (b++[e]))) (b.length+1))):=by
 refine⟨by rw[Rq i];exact h.word,by rw[Xc (fI h.map),gj];rfl,λj a=>?_⟩
 rcases gU.1 a with a|a
 ·exact(h.vx j a).set h.map
 ·rw[gc.1 a];exact g.set h.map
def apE {a d:Nat}(b:Pe)(e:Obj):Ap a d b (Rn b a e):=⟨rfl,rfl,rfl,by rw[WB];exact Qp,λf _ c=>Rq c⟩
def aMG:WM 73:=λ_ _=>by kernel_rfl
def MP {z:Nat->Prop}(b:Ad)(a:Pe)(B:Tf z a b)(t:b.VE.Nodup)(p:b.kg<=90000) :
  Pq 38 #[O5 b.p] a λm f=>(∃ c,m=PK (.map (some c))/\a.heap.size<=c/\f.heap[c]? = some (.map (X9 (Xw b.VE)) b.VE.length))/\Pn a f:=by
 obtain⟨j,d⟩:=xE ((a.alloc (.map #[] 0)).alloc (.cells #[.map (some a.heap.size)] 80));have o:Pn a j:=by
  rw[d];exact QJ.alloc P7 _
 have F:j.heap.size=a.heap.size+2:=by rw[d];simp
 have q:(a.alloc (.map #[] 0)).heap.size=a.heap.size+1:=by simp
 have H:qp a.heap.size (a.heap.size+1) [] j:=by
  refine⟨?_,?_,λI e=>absurd e P7⟩
  ·rw[d,<-q];exact Ph _ _
  ·rw[d,gd _ _ _ P7];exact Ph _ _
 have g:=(aKs 73 (PL (a.heap.size+1) 0) (λc=>c<a.heap.size+2/\c≠a.heap.size) (Ap a.heap.size (a.heap.size+2)) (qp a.heap.size (a.heap.size+1)) rk (λi n=>(i++Ad.Ui n).Nodup) aMG (λr=>by kernel_rfl)
  (λ_ _ _ h r=>h.trans r) (λa f h=>⟨λc k _=>h.block c k.1 k.2,h.size⟩)
  (λi b n h=>by
   simp only[rk,hz];rw[Ad.Ui,rY] at h;rw[GJ];simpa using h)
  (λi b n f h v r=>by
   have e:b.p ∉ i:=by
    rw[Ad.Ui,rY,mW] at h;exact λA=>h.2.2 _ A _ P7 rfl
   refine(ajR v r e).mono ?_;rintro m l ⟨rfl,rfl⟩;exact⟨rfl,v.next r.cl O9,apE _ _⟩)
  b.kg b Qp p [] [] j (by rw[hR,Ad.Ui,Ad.Ui,i8];exact t) H
  (Tf.fH (I:=λc=>c<a.heap.size+2/\c≠a.heap.size) (λc k u=>o.block c u) _ (Tf.mono (λc _ u=>⟨by omega,by omega⟩) _ B)))
 rw[B7,hR] at g;obtain⟨I,e⟩:=xE b.p;rw[<-e] at g ⊢;rw[d] at g;have C:=Y d;have M:=mkMap 80;clear F q t p e d;go_enter func38,ntmps38;go_wp2_with fail;refine cm g ?_;rintro m l ⟨rfl,w,_,s⟩;have L:l.cell? (O7 (a.heap.size+1) 0)=some (.map (some a.heap.size)):=by rw[cell_of w.word];rfl
 have E:=Y w.map;rw[<-C.out] at s;have D:Pn a l:=o.trans ((s.mono O9).below Qp);go_wp2;go_ret;exact⟨⟨_,rfl,Qp,E.out⟩,D⟩
def Vi {i:Pe}{b a c f:Nat}{g:Px}{e:Nat}{j:List Px}(h:i.ownsRow b c f g e j)(m:a<=b):i.ownsRow a c f g e j:=by
 obtain⟨d,k|⟨r,q,o,n,l,p⟩⟩:=h
 ·exact⟨d,fM k⟩
 ·exact⟨d,fU ⟨r,q,o,n,f9 m l,p⟩⟩
