import Derived.Test.YticfnaiehdpbmaaGreatDoorFa14
set_option maxRecDepth 100000
set_option maxHeartbeats 0
set_option linter.all false
namespace Go.Proofs.YticfnaiehdpbmaaGreatDoor
open Go.RowKit Go.Proofs.Tryz
inductive SN (cX dv:Py->Prop) (du:Int->Prop):Nat->Tr->Prop
 | name {s} (h:cX s):SN cX dv du 0 (.mk 23 s 0 [])
 | str {s} (h:dv s):SN cX dv du 0 (.mk 18 s 0 [])
 | num {n} (h:du n):SN cX dv du 0 (.mk 17 O8 n [])
 | lit {kd} (A:kd=19\/kd=20\/kd=21\/kd=22):SN cX dv du 0 (.mk kd O8 0 [])
 | m0 {s t} (h:cX s) (aR:SN cX dv du 0 t):SN cX dv du 0 (.mk 36 s 0 [t])
 | call {t ts} (aR:SN cX dv du 0 t) (aa:∀ u ∈ ts,SN cX dv du 0 u) (hl:ts.length<=8):SN cX dv du 0 (.mk 35 O8 0 (t::ts))
 | one {kd t} (A:kd=32\/kd=33\/kd=34) (aR:SN cX dv du 0 t):SN cX dv du 0 (.mk kd O8 0 [t])
 | two {kd a b} (A:25<=kd/\kd<=31) (aq:SN cX dv du 0 a) (D:SN cX dv du 0 b):SN cX dv du 0 (.mk kd O8 0 [a,b])
 | YV {a b} (A:a.kd=23\/a.kd=36) (aq:SN cX dv du 0 a) (D:SN cX dv du 0 b):SN cX dv du 0 (.mk 24 O8 0 [a,b])
 | obj {ps} (aa:∀ u ∈ ps,SN cX dv du 2 u) (hl:ps.length<=8):SN cX dv du 0 (.mk 38 O8 0 ps)
 | jP {s p b} (h:s=O8\/cX s) (ao:SN cX dv du 5 p) (D:SN cX dv du 4 b):SN cX dv du 0 (.mk 37 s 0 [p,b])
 | gv {s v} (h:cX s) (av:SN cX dv du 0 v):SN cX dv du 2 (.mk 39 s 0 [v])
 | pk {s} (h:cX s):SN cX dv du 6 (.mk 23 s 0 [])
 | mG {ps} (aa:∀ u ∈ ps,SN cX dv du 6 u) (hl:ps.length<=8):SN cX dv du 5 (.mk 40 O8 0 ps)
 | gw {ts} (aa:∀ u ∈ ts,SN cX dv du 1 u):SN cX dv du 3 (.mk 6 O8 0 ts)
 | body {tx ts} (aR:tx=O8\/tx=WO) (aa:∀ u ∈ ts,SN cX dv du 1 u):SN cX dv du 4 (.mk 6 tx 0 ts)
 | decl {kd s v} (A:kd=2\/kd=3\/kd=4) (h:cX s) (av:∀ u ∈ v,SN cX dv du 0 u) (hl:v.length<=1) (ag:kd=4->v.length=1):SN cX dv du 1 (.mk kd s 0 v)
 | func {s p b} (h:cX s) (ao:SN cX dv du 5 p) (D:SN cX dv du 4 b):SN cX dv du 1 (.mk 5 s 0 [p,b])
 | YW {t} (h:SN cX dv du 3 t):SN cX dv du 1 t
 | l0 {v s} (av:SN cX dv du 0 v) (aa:SN cX dv du 1 s):SN cX dv du 1 (.mk 7 O8 0 [v,s])
 | oC {v s e} (av:SN cX dv du 0 v) (aa:SN cX dv du 1 s) (al:SN cX dv du 1 e):SN cX dv du 1 (.mk 7 O8 0 [v,s,e])
 | loop {kd v s} (A:kd=8\/kd=9) (av:SN cX dv du 0 v) (aa:SN cX dv du 1 s):SN cX dv du 1 (.mk kd O8 0 [v,s])
 | hU {kd v} (A:kd=10\/kd=11) (av:∀ u ∈ v,SN cX dv du 0 u) (hl:v.length<=1) (ag:kd=11->v.length=1):SN cX dv du 1 (.mk kd O8 0 v)
 | lc {b c f} (D:SN cX dv du 3 b) (ag:∀ u ∈ c,SN cX dv du 7 u) (aE:∀ u ∈ f,SN cX dv du 8 u) (hl:c.length<=1/\f.length<=1/\0<c.length+f.length):SN cX dv du 1 (.mk 12 O8 0 (b::(c++f)))
 | cat {s b} (h:cX s) (D:SN cX dv du 3 b):SN cX dv du 7 (.mk 13 s 0 [b])
 | fin {b} (D:SN cX dv du 3 b):SN cX dv du 8 (.mk 14 O8 0 [b])
 | empty:SN cX dv du 1 (.mk 16 O8 0 [])
 | expr {v} (av:SN cX dv du 0 v):SN cX dv du 1 (.mk 15 O8 0 [v])
 | prog {tx ts} (aR:tx=O8\/tx=WO) (aa:∀ u ∈ ts,SN cX dv du 1 u):SN cX dv du 9 (.mk 1 tx 0 ts)
def CG (b:Int)(c:Int)(d:List Tr):∃ a,(a=O8\/a=WO)/\VJ (.mk b O8 c d)=.mk b a c d:=by
 unfold VJ
 split
 ·rename_i h;cases h;split
  ·exact⟨_,fU rfl,rfl⟩
  ·exact⟨_,fM rfl,rfl⟩
 ·exact⟨_,fM rfl,rfl⟩
def SN.P1 {a c:Py->Prop}{b:Int->Prop}{d:Tr}(h:SN a c b 3 d):SN a c b 4 (VJ d):=by
 cases h with
 | gw f=>obtain⟨i,g,e⟩:=CG 6 0 _;rw[e];exact .body g f
def YC {c:Int}{x:Py}{a:Sg}(h:iu c x=some a):a ∈ ZH/\a.parts=c:=by
 unfold iu at h;have b:=oM.1 h;exact⟨h7 b.1,by simpa using b.2⟩
def pg (b:Nat)(a:Int):Bool:=match b with
 | 0=>a==2||a==3||a==4
 | 4=>a==7
 | 5=>a==8||a==9
 | 6=>a==10||a==11
 | _=>true
section
variable {a:List Tk}
def jX (a:List Tk)(c:Py):Prop:=∃ b,(Qe a b).kd=1/\(Qe a b).tx=c
def kf (a:List Tk)(c:Py):Prop:=∃ b,(Qe a b).tx=c
def kt (a:List Tk)(c:Int):Prop:=∃ b,(Qe a b).n=c
def XH {b e:Nat}{c:Py}(h:gC a b=.ok c e):jX a c:=by
 unfold gC at h
 split at h
 ·rename_i d;cases h;exact⟨b,d,rfl⟩
 ·
  cases h
def aCX {i c:Nat}(h:RI U5 (fx a c)=some i):pg i (Q7 (Qe a c).tx)=true:=by
 unfold RI at h
 cases e:U5.find? (λb=>decide (fx a c=b.1)) with
 | none=>rw[e] at h;cases h
 | some b=>
  rw[e] at h;have g:=h7 e;have d:fx a c=b.1:=by simpa using m8 e
  have f:∀ b ∈ U5,pg b.2 (Q7 b.1)=true/\b.1≠O8:=by decide +kernel
  have j:(Qe a c).tx=b.1:=by
   unfold fx at d
   split at d
   ·exact d
   ·exact absurd d.symm (f b g).2
  cases h;rw[j];exact(f b g).1
abbrev Kh (a:List Tk)(c:Nat)(e:PR Tr):Prop:=∀ b d,e=.ok b d->SN (jX a) (kf a) (kt a) c b
def U3 {b:Nat}{d:Nat->Nat->PR Tr}{c e:Nat}(h:Kh a b (d (c+1) e)):Kh a b (Qw a d c e):=by
 unfold Qw
 split
 ·intro i g f;cases f
 ·exact h
def H4 {P:Tr->Prop}{b:List Tr}{c:Tr}(f:∀ x ∈ b,P x)(d:P c):∀ x ∈ b++[c],P x:=by
 intro x e
 rcases gU.1 e with h|h
 ·exact f x h
 ·rw[gc.1 h];exact d
def Nu {g:Nat}{shut:Py}{begins:Nat->Bool}{part:Nat->PR Tr}(m:∀ b d e,part b=.ok d e->begins b=true)(o:∀ b,Kh a g (part b)):∀ f c b d e,(∀ x ∈ c,SN (jX a) (kf a) (kt a) g x)->c.length<=8->Uu a shut begins part f c b=.ok d e->(∀ x ∈ d,SN (jX a) (kf a) (kt a) g x)/\d.length<=8:=by
 intro f
 induction f with
 | zero=>intro c b d e _ _ h;cases h
 | succ f r=>
  intro c b d e p t h;unfold Uu at h
  split at h
  ·
   cases h
  ·rename_i q
   obtain⟨l,n,k,h⟩:=fS h;have i:=H4 p (o b l n k);have j:(c++[l]).length<=8:=by
    have:c.length≠8:=λs=>q ⟨s,m _ _ _ k⟩;simp;omega
   split at h
   ·
    cases h;exact⟨i,j⟩
   ·obtain⟨_,i2,s,h⟩:=fS h;exact r _ _ _ _ i j h
def zH {c:Nat}{j shut:Py}{begins:Nat->Bool}{part:Nat->PR Tr}(f:∀ b d e,part b=.ok d e->begins b=true)(g:∀ b,Kh a c (part b)){i b e:Nat}{d:List Tr}(h:XB a j shut begins part i b=.ok d e):(∀ x ∈ d,SN (jX a) (kf a) (kt a) c x)/\d.length<=8:=by
 unfold XB at h;obtain⟨_,k,l,h⟩:=fS h
 split at h
 ·
  cases h;exact⟨λ_ h=>(by cases h),by simp⟩
 ·exact Nu f g _ _ _ _ _ (λ_ h=>by cases h) P7 h
def Jn {b d:Nat}{e:Py}(h:gC a b=.ok e d):gS a b=true:=by
 unfold gC at h
 split at h
 ·rename_i c;unfold gS;rw[c];rfl
 ·
  cases h
structure Ft (l:List Tk)(F:Um):Prop where
 st:∀ d i,Kh l 1 (F.st d i)
 vl:∀ d i,Kh l 0 (F.vl d i)
 pr:∀ b d i,Kh l 0 (F.pr b d i)
 sg:∀ d i,Kh l 0 (F.sg d i)
 bg:∀ d i t j,F.vl d i=.ok t j->hO l i=true
 bp:∀ b d i t j,F.pr b d i=.ok t j->hO l i=true
 bs:∀ d i t j,F.sg d i=.ok t j->hO l i=true
variable {g:Um} (c:Ft a g)
include c
def Wr {l:Nat}:∀ d b f e i,(∀ x ∈ b,SN (jX a) (kf a) (kt a) 1 x)->RF a g l d b f=.ok e i->∀ x ∈ e,SN (jX a) (kf a) (kt a) 1 x:=by
 intro d
 induction d with
 | zero=>intro b f e i _ h;cases h
 | succ d k=>
  intro b f e i j h;unfold RF at h;exact Gr
def Zn {d e:Nat}:Kh a 3 (QO a g d e):=by
 intro k j h;unfold QO at h;obtain⟨_,f,i,h⟩:=fS h;obtain⟨l,i2,b,h⟩:=fS h;cases h;exact .gw (Wr c _ _ _ _ _ (λ_ h=>by cases h) b)
omit c in
theorem apU {d:Nat}:Kh a 5 (Ug a g d):=by
 intro f e h;unfold Ug at h;obtain⟨j,i,b,h⟩:=fS h;cases h;have:=zH (c:=6) (λd f e h=>by unfold VU at h;obtain⟨_,_,b,_⟩:=fS h;exact Jn b) (λd f e h=>by unfold VU at h;obtain⟨_,_,b,h⟩:=fS h;cases h;exact .pk (XH b)) b
 exact .mG this.1 this.2
def xu (d e:Nat):Kh a 0 (Vu a g d e):=by
 intro m l h;unfold Vu at h;obtain⟨_,f,j,h⟩:=fS h;obtain⟨n,i2,b,h⟩:=fS h;obtain⟨_,k,i,h⟩:=fS h;cases h;exact U3 (c.vl _ _) _ _ b
def apV (j d:Nat):Kh a 0 (WU a g j d):=by
 intro f e h;unfold WU at h;obtain⟨l,k,b,h⟩:=fS h;cases h;have:=zH (c:=2) (λd f e h=>by unfold XZ at h;obtain⟨_,_,b,_⟩:=fS h;exact Jn b) (λd f e h=>by
  unfold XZ at h;obtain⟨_,_,b,h⟩:=fS h;obtain⟨_,_,_,h⟩:=fS h;obtain⟨_,_,i,h⟩:=fS h;cases h;exact .gv (XH b) (U3 (c.vl _ _) _ _ i)) b
 exact .obj this.1 this.2
def xz {d:Int}{f:Py}{k m n:Nat}{i:Tr}(h:TI a g d f k m=.ok i n):∃ e b,i=.mk d f 0 [e,b]/\SN (jX a) (kf a) (kt a) 5 e/\SN (jX a) (kf a) (kt a) 4 b:=by
 unfold TI at h;obtain⟨p,o,l,h⟩:=fS h;obtain⟨b,i2,j,h⟩:=fS h;cases h;exact⟨_,_,rfl,apU _ _ l,(Zn c _ _ j).P1⟩
def NL (i j:Nat):Kh a 0 (WV a g i j):=by
 intro p n h;unfold WV at h;obtain⟨_,l,m,h⟩:=fS h
 split at h
 ·obtain⟨o,i2,e,h⟩:=fS h;obtain⟨k,f,rfl,d,b⟩:=xz c h;exact .jP (fU (XH e)) d b
 ·obtain⟨k,f,rfl,d,b⟩:=xz c h;exact .jP (fM rfl) d b
def N3 (e b:Nat):Kh a 0 (WH a g e b):=by
 unfold WH
 split
 ·exact xu c e b
 ·exact apV c e b
 ·exact NL c e b
 ·split
  ·rename_i j;intro i f h;cases h
   have k:∀ d ∈ ZH,d.parts=0->d.kd=19\/d.kd=20\/d.kd=21\/d.kd=22:=by decide +kernel
   exact .lit (k _ (YC j).1 (YC j).2)
  ·split
   ·rename_i d;intro i f h;cases h;exact .name ⟨b,d,rfl⟩
   ·split
    ·intro i f h;cases h;exact .str ⟨b,rfl⟩
    ·split
     ·intro i f h;cases h;exact .num ⟨b,rfl⟩
     ·intro i f h;cases h
omit c in
theorem Sp {k d l:Nat}{m:Tr}(h:WH a g k d=.ok m l):hO a d=true:=by
 unfold hO;unfold WH at h
 cases j:RI Ue (fx a d) with
 | some p=>simp
 | none=>
  rw[j] at h;simp only at h
  cases e:iu 0 (fx a d) with
  | some q=>
   have i{G}(h:G:=by
   rw[f];simp):=O6 h;exact HA
  | none=>
   rw[e] at h;simp only at h
   split at h
   ·rename_i b;simp[b]
   ·split at h
    ·rename_i b;simp[b]
    ·split at h
     ·rename_i b;simp[b]
     ·
      cases h
def ahI {n:Nat}:∀ f i b d e,SN (jX a) (kf a) (kt a) 0 i->TJ a g n f i b=.ok d e->SN (jX a) (kf a) (kt a) 0 d:=by
 intro f
 induction f with
 | zero=>intro i b d e _ h;cases h
 | succ f l=>
  intro i b d e j h;unfold TJ at h
  split at h
  ·obtain⟨o,m,k,h⟩:=fS h;exact l _ _ _ _ (.m0 (XH k) j) h
  ·split at h
   ·obtain⟨o,m,k,h⟩:=fS h;have:=zH (c:=0) (λb d e h=>by
     unfold Qw at h
     split at h
     ·
      cases h
     ·exact c.bg _ _ _ _ h) (λb=>U3 (c.vl _ _)) k
    exact l _ _ _ _ (.call j this.1 this.2) h
   ·
    cases h;exact j
def apX (i k:Nat):Kh a 0 (Vw a g i k):=by
 unfold Vw
 split
 ·rename_i j
  intro n m h;obtain⟨e,f,d,h⟩:=fS h;cases h;have l:∀ b ∈ ZH,b.parts=1->b.kd=32\/b.kd=33\/b.kd=34:=by decide +kernel
  exact .one (l _ (YC j).1 (YC j).2) (U3 (c.sg _ _) e _ d)
 ·intro n m h;unfold VW at h;obtain⟨e,f,d,h⟩:=fS h;exact ahI c _ _ _ _ _ (N3 c i k e f d) h
omit c in
theorem OS (j d:Nat)(l:Tr)(k:Nat)(h:Vw a g j d=.ok l k):hO a d=true:=by
 unfold Vw at h
 cases e:iu 1 (fx a d) with
 | some p=>
  have i{G}(h:G:=by
  unfold hO;rw[f];simp):=O6 h;exact HA
 | none=>
  rw[e] at h;simp only at h;unfold VW at h;obtain⟨q,m,b,_⟩:=fS h;exact Sp b
def Nz {o:Int}{q:Nat}:∀ b e i d j,SN (jX a) (kf a) (kt a) 0 e->UQ a g o q b e i=.ok d j->SN (jX a) (kf a) (kt a) 0 d:=by
 intro b
 induction b with
 | zero=>intro e i d j _ h;cases h
 | succ b p=>
  intro e i d j f h;unfold UQ at h
  split at h
  ·
   cases h;exact f
  ·rename_i l
   split at h
   ·
    cases h;exact f
   ·obtain⟨s,n,r,h⟩:=fS h;have m:∀ k ∈ ZH,k.parts=2->25<=k.kd/\k.kd<=31:=by decide +kernel
    exact p _ _ _ _ (.two (m _ (YC l).1 (YC l).2) f (c.pr _ _ _ s n r)) h
def ax8 (d:Int)(e i:Nat):Kh a 0 (Y8 a g d e i):=by
 intro l k h;unfold Y8 at h;obtain⟨j,b,f,h⟩:=fS h;exact Nz c _ _ _ _ _ (c.sg _ _ j b f) h
def aun (i k:Nat):Kh a 0 (Xl a g i k):=by
 intro o n h;unfold Xl at h;obtain⟨l,f,j,h⟩:=fS h;have b:=c.pr _ _ _ l f j
 split at h
 ·split at h
  ·rename_i d
   obtain⟨m,i2,e,h⟩:=fS h;cases h;exact .YV d b (U3 (c.vl _ _) m _ e)
  ·
   cases h
 ·
  cases h;exact b
def ax9 (v C k:Nat)(s:pg C (Q7 (Qe a k).tx)=true):Kh a 1 (nM a g v C k):=by
 intro O L h;unfold nM at h
 split at h
 ·have l:Q7 (Qe a k).tx=2\/Q7 (Qe a k).tx=3\/Q7 (Qe a k).tx=4:=by simpa[pg,or_assoc] using s
  unfold oB at h;obtain⟨q,i,e,h⟩:=fS h
  split at h
  ·
   cases h
  ·rename_i u
   split at h
   ·obtain⟨o,i2,b,h⟩:=fS h;obtain⟨_,m,d,h⟩:=fS h;cases h;have n:=U3 (c.vl _ _) o _ b;exact .decl l (XH e) (λj f=>by rw[gc.1 f];exact n) P7 P7
   ·rename_i p
    obtain⟨_,m,d,h⟩:=fS h;cases h;exact .decl l (XH e) (λj f=>by cases f) P7 (λw=>absurd ⟨w,p⟩ u)
 ·unfold n4 at h;obtain⟨_,i,e,h⟩:=fS h;obtain⟨q,i2,b,h⟩:=fS h;obtain⟨z,H,rfl,r,p⟩:=xz c h;exact .func (XH b) r p
 ·exact .YW (Zn c _ _ h)
 ·obtain⟨_,m,d,h⟩:=fS h;cases h;exact .empty
 ·have l:Q7 (Qe a k).tx=7:=by simpa[pg] using s
  unfold WW at h;rw[l] at h;obtain⟨o,i,e,h⟩:=fS h;obtain⟨q,i2,b,h⟩:=fS h;have t:=xu c v _ o i e;have n:=U3 (c.st _ _) q _ b
  split at h
  ·obtain⟨s2,m,d,h⟩:=fS h;cases h;exact .oC t n (U3 (c.st _ _) s2 _ d)
  ·
   cases h;exact .l0 t n
 ·have l:Q7 (Qe a k).tx=8\/Q7 (Qe a k).tx=9:=by simpa[pg] using s
  unfold UE at h;obtain⟨o,i,e,h⟩:=fS h;obtain⟨q,i2,b,h⟩:=fS h;cases h;exact .loop l (xu c v _ o i e) (U3 (c.st _ _) q _ b)
 ·have l:Q7 (Qe a k).tx=10\/Q7 (Qe a k).tx=11:=by simpa[pg] using s
  unfold XC at h
  split at h
  ·obtain⟨o,i,e,h⟩:=fS h;obtain⟨_,i2,b,h⟩:=fS h;cases h;have t:=U3 (c.vl _ _) o _ e;exact .hU l (λj f=>by rw[gc.1 f];exact t) P7 P7
  ·rename_i u
   obtain⟨_,i2,b,h⟩:=fS h;cases h;exact .hU l (λj f=>by cases f) P7 (λw=>absurd (fM w) u)
 ·have r{G}(h:G:=by
  have n:(∀ j ∈ z,SN (jX a) (kf a) (kt a) 7 j)/\z.length<=1:=by
   unfold pZ at b
   split at b
   ·have r{G}(h:G:=by
    cases b;exact⟨λj f=>by rw[gc.1 f];exact .cat (XH D) (Zn c _ _ p),by simp⟩):=O6 h;exact Fp
   ·
    cases b;exact⟨λj f=>(by cases f),by simp⟩
  have B:(∀ j ∈ A,SN (jX a) (kf a) (kt a) 8 j)/\A.length<=1:=by
   unfold Xm at d
   split at d
   ·obtain⟨F,E,p,d⟩:=fS d;cases d;exact⟨λj f=>by rw[gc.1 f];exact .fin (Zn c _ _ p),by simp⟩
   ·
    cases d;exact⟨λj f=>(by cases f),by simp⟩
  split at h
  ·
   cases h
  ·rename_i u
   cases h;exact .lc (Zn c _ _ e) n.1 B.1 ⟨n.2,B.2,by omega⟩):=O6 h;exact Ib
def NI (b d:Nat):Kh a 1 (SX a g b d):=by
 unfold SX
 split
 ·rename_i e;exact ax9 c b _ d (aCX e)
 ·intro l k h;unfold o3 at h;obtain⟨f,j,e,h⟩:=fS h;obtain⟨_,i2,i,h⟩:=fS h;cases h;exact .expr (U3 (c.vl _ _) f _ e)
omit c in
theorem aCY:∀ d,Ft a (iN a d):=by
 intro d
 induction d with
 | zero=>exact⟨λ_ _ _ _ h=>by (cases h),λ_ _ _ _ h=>by (cases h),λ_ _ _ _ _ h=>by (cases h),λ_ _ _ _ h=>by (cases h),λ_ _ _ _ h=>by (cases h),λ_ _ _ _ _ h=>by (cases h),λ_ _ _ _ h=>by (cases h)⟩
 | succ d b=>exact⟨NI b,aun b,ax8 b,apX b,λe i m l h=>by
   change Xl a (iN a d) e i=_ at h;unfold Xl at h;obtain⟨n,j,f,_⟩:=fS h;exact b.bp _ _ _ _ _ f,λk e i m l h=>by
   change Y8 a (iN a d) k e i=_ at h;unfold Y8 at h;obtain⟨n,j,f,_⟩:=fS h;exact b.bs _ _ _ _ f,OS⟩
def T2:∀ d b f e i,(∀ x ∈ b,SN (jX a) (kf a) (kt a) 1 x)->Sl a g d b f=.ok e i->∀ x ∈ e,SN (jX a) (kf a) (kt a) 1 x:=by
 intro d
 induction d with
 | zero=>intro b f e i _ h;cases h
 | succ d k=>
  intro b f e i j h;unfold Sl at h;exact Gr
def V0:Kh a 9 (Wh a g):=by
 intro k j h;unfold Wh at h;obtain⟨f,i,e,h⟩:=fS h;cases h;obtain⟨l,b,d⟩:=CG 1 0 f;rw[d];exact .prog b (T2 c _ _ _ _ _ (λ_ h=>by cases h) e)
end
def FH {d gJ:List Py}{c:Py}{e:Tr}(h:TD d gJ c=.ok e):∃ a,Vq d gJ c (P9 TU c 0) []=.ok a/\SN (jX a) (kf a) (kt a) 9 e:=by
 unfold TD at h
 split at h
 ·
  cases h
 ·split at h
  ·
   cases h
  ·rename_i a f
   refine⟨a,f,?_⟩
   cases b:Wh a (iN a KK) with
   | out=>rw[b] at h;cases h
   | f0 g i=>rw[b] at h;cases h
   | ok i g=>
    rw[b] at h;simp only at h
    split at h
    ·
     cases h
    ·
     cases h;exact V0 (aCY _) _ _ b
def hr (a:Int):Nat:=if a=5\/a=37\/a=9 then 2 else if a=13\/a=24\/a=34\/a=35 then 1 else 0
def ar (a:Int)(b:Nat):Nat:=if hr a<=b then 0 else 1
mutual
def Tr.kr:Tr->Nat
 | .mk b _ _ a=>ar b a.length+Tr.np a
def Tr.np:List Tr->Nat
 | []=>0
 | a::b=>a.kr+Tr.np b
end
def Vb (b:Int)(d:Py)(c:Int)(a:List Tr):(Tr.mk b d c a).kr=ar b a.length+Tr.np a:=by rw[Tr.kr]
def arl (a:Int):hr a<=2:=by
 unfold hr
 split
 ·omega
 ·split <;> omega
def SP (a:Int)(b:Nat)(h:2<=b):ar a b=0:=by
 unfold ar;rw[fL (f9 (arl a) h)]
def X3:Tr.np []=0:=by rw[Tr.np]
def Uc (a:Tr)(b:List Tr):Tr.np (a::b)=a.kr+Tr.np b:=by rw[Tr.np]
def AP:∀ (c:List Tr),Tr.np c=0->∀ b ∈ c,b.kr=0
 | [],_=>λb a=>absurd a P7
 | e::d,h=>λb a=>by
  rw[Uc] at h
  rcases gP.1 a with rfl|a
  ·omega
  ·exact AP d O9 b a
def qD (a:Tr)(h:a.kr=0):hr a.kd<=a.fJ.length/\∀ d ∈ a.fJ,d.kr=0:=by
 cases a with
 | mk e g f c=>
  rw[Vb] at h;refine⟨?_,AP c O9⟩;have b:ar e c.length=0:=O9;unfold ar at b
  split at b
  ·assumption
  ·omega
def Ud:∀ a:List Tr,(∀ b ∈ a,b.kr=0)->Tr.np a=0
 | [],_=>X3
 | d::a,h=>by rw[Uc,h d (gf ..),Ud a (λb c=>h b (gE _ c))]
def SN.kr {l n:Py->Prop}{m:Int->Prop}{k:Nat}{e:Tr}(h:SN l n m k e):e.kr=0:=by
 induction h with
 | YW _ b=>exact b
 | call _ _ _ b a=>rw[Vb,Uc,b,Ud _ a];rfl
 | decl c _ _ _ _ a=>rw[Vb,Ud _ a];rcases c with rfl|rfl|rfl <;> simp[ar,hr]
 | hU c _ _ _ a=>rw[Vb,Ud _ a];rcases c with rfl|rfl <;> simp[ar,hr]
 | lc _ _ _ _ b g i=>
  rw[Vb,Uc,b,Ud _ (λf j=>(gU.1 j).elim (g f) (i f))];simp[ar,hr]
 | obj _ _ a=>rw[Vb,Ud _ a];simp[ar,hr]
 | mG _ _ a=>rw[Vb,Ud _ a];simp[ar,hr]
 | gw _ a=>rw[Vb,Ud _ a];simp[ar,hr]
 | body _ _ a=>rw[Vb,Ud _ a];simp[ar,hr]
 | prog _ _ a=>rw[Vb,Ud _ a];simp[ar,hr]
 | lit c=>rw[Vb,X3];rcases c with rfl|rfl|rfl|rfl <;> simp[ar,hr]
 | one c _ b=>rw[Vb,Uc,X3,b];rcases c with rfl|rfl|rfl <;> simp[ar,hr]
 | two c _ _ b d=>rw[Vb,Uc,Uc,X3,b,d,SP _ _ P7]
 | loop c _ _ b d=>rw[Vb,Uc,Uc,X3,b,d];rcases c with rfl|rfl <;> simp[ar,hr]
 | _=>simp[Vb,Uc,X3,ar,hr, *]
def N6 {c b:List Py}{d:Py}{a:Tr}(h:TD c b d=.ok a):a.kr=0:=by
 obtain⟨_,_,h⟩:=FH h;exact h.kr
def iS (a:Tr)(b d c:Bool):Option Int:=
 if a.kd=1 then nf a true
 else if a.kd=6 then nf a c
 else if a.kd=5\/a.kd=37 then nq a b
 else if a.kd=2\/a.kd=3\/a.kd=4 then iR b a.tx
 else if a.kd=13 then Yi a b
 else if a.kd=7\/a.kd=8\/a.kd=9 then lW a b
 else if a.kd=10 then (if d then none else some 6)
 else if a.kd=24 then (if (Qz a 0).kd=23 then iR b (Qz a 0).tx else none)
 else if a.kd=34 then (if b&&(Qz a 0).kd==23 then some 1 else none)
 else none
section
variable (a:Tr) (d:Nat) (b n c:Bool) (w:Pe) (h:TV w a d) (g:a.count<=20000)
include h g
def OM (k:a.kd=1):Pq 104 #[O5 d,YX b n c] w λe u=>e=PK (VZ (nf a true))/\Pn w u:=by
 have m{G}(h:G:=by
 have f:=YZ a d true s I g;have q:=l.c0;have t:=l.c1;have i:=l.c2
 generalize nf a true=j at f
 exact qL):=O6 h;exact nX
def aLk (k:a.kd=6):Pq 104 #[O5 d,YX b n c] w λe u=>e=PK (VZ (nf a c))/\Pn w u:=by
 have m{G}(h:G:=by
 have f:=YZ a d c s I g;have q:=l.c0;have t:=l.c1;have i:=l.c2
 generalize nf a c=j at f
 exact qL):=O6 h;exact nX
def aLl (k:a.kd=5)(u:2<=a.fJ.length):Pq 104 #[O5 d,YX b n c] w λe v=>e=PK (VZ (nq a b))/\Pn w v:=AE
def aDO (k:a.kd=37)(u:2<=a.fJ.length):Pq 104 #[O5 d,YX b n c] w λe v=>e=PK (VZ (nq a b))/\Pn w v:=AE
def Wm (k:a.kd=13)(v:1<=a.fJ.length):Pq 104 #[O5 d,YX b n c] w λe u=>e=PK (VZ (Yi a b))/\Pn w u:=by
 have m{G}(h:G:=by
 have f:=ado a d b n c s I v g;have q:=l.c0;have t:=l.c1;have i:=l.c2
 generalize Yi a b=j at f
 exact qL):=O6 h;exact nX
def aLm (k:a.kd=7):Pq 104 #[O5 d,YX b n c] w λe u=>e=PK (VZ (lW a b))/\Pn w u:=yt
def aLn (k:a.kd=8):Pq 104 #[O5 d,YX b n c] w λe u=>e=PK (VZ (lW a b))/\Pn w u:=yt
def aLo (k:a.kd=9):Pq 104 #[O5 d,YX b n c] w λe u=>e=PK (VZ (lW a b))/\Pn w u:=yt
def Mp (k:a.kd=2):Pq 104 #[O5 d,YX b n c] w λt E=>t=PK (VZ (iR b a.tx))/\Pn w E:=vQ
def XN (k:a.kd=3):Pq 104 #[O5 d,YX b n c] w λt E=>t=PK (VZ (iR b a.tx))/\Pn w E:=vQ
def aLr (k:a.kd=4):Pq 104 #[O5 d,YX b n c] w λt E=>t=PK (VZ (iR b a.tx))/\Pn w E:=vQ
def aDQ (k:a.kd=10):Pq 104 #[O5 d,YX b n c] w λf e=>f=PK (VZ (if n then none else some 6))/\Pn w e:=by
 have m{G}(h:G:=by
 have i:=l.c1;rw[p] at i o;clear h g z M k R D p
 cases n <;>
 ·exact zK):=O6 h;exact nX
def aDR (k:a.kd=24)(aj:1<=a.fJ.length):Pq 104 #[O5 d,YX b n c] w λt ai=>t=PK (VZ (if (Qz a 0).kd=23 then iR b (Qz a 0).tx else none))/\Pn w ai:=by
 have m{G}(h:G:=by
 have F:=o;obtain⟨aD,ax,O,rfl,aF,ap,U⟩:=X.cell 0 O9;rw[<-Yh a 0 O9] at U;obtain⟨aC,ah,N,_⟩:=U.cells;have B:=Y (λe=>V3 b n c (Qz a 0).tx e);have A:=Y (PN o N);have aG:=fV A.out
 generalize (Qz a 0).tx=r at B A N
 generalize (Qz a 0).kd=ac at ah
 generalize a.fJ.length=au at R aj M
 generalize iR b r=H at B
 clear h g z k D N
 by_cases E:ac=23
 ·subst E;simp only[hz];have m{G}(h:G:=by
  refine wh 0 (O5 O) q ?_;refine wh 1 (O5 O) q ?_;refine wh 2 (PL O 1) q ?_;have m{G}(h:G:=by
  cases H <;>
  ·unfold VZ;go_wp2;go_ret;exact⟨rfl,F.trans (i.mono F.size)⟩):=O6 h;exact HF):=O6 h;exact K9
 ·have e:(ac==23)=false:=by simpa using E
  simp only[fK E];rw[p] at F;clear E p;go_enter func104,j5;go_wp2;go_ret;exact⟨rfl,F⟩):=O6 h;exact nX
def M8 (k:a.kd=34)(q:1<=a.fJ.length):Pq 104 #[O5 d,YX b n c] w λt j=>t=PK (VZ (if b&&(Qz a 0).kd==23 then some 1 else none))/\Pn w j:=by
 have m{G}(h:G:=by
 obtain⟨F,C,N,rfl,L,A,f⟩:=X.cell 0 O9;rw[<-Yh a 0 O9] at f;obtain⟨E,i,e,_⟩:=f.cells
 generalize (Qz a 0).tx=r at e
 generalize (Qz a 0).kd=v at i
 generalize a.fJ.length=B at R q M
 have u:=l.c0;rw[p] at u o;clear h g z k D e p
 cases b with
 | false=>
  exact zK
 | true=>
  cases H:(v==23) <;>
  ·exact zK):=O6 h;exact nX
omit g in
theorem wrE (l:a.kd≠1/\a.kd≠6/\a.kd≠5/\a.kd≠37/\a.kd≠2/\a.kd≠3/\a.kd≠4/\a.kd≠13/\a.kd≠7/\a.kd≠8/\a.kd≠9/\a.kd≠10/\a.kd≠24/\a.kd≠34):Pq 104 #[O5 d,YX b n c] w λC A=>C=PK (VZ none)/\Pn w A:=by
 obtain⟨T,B,_,_⟩:=h.cells;have D:=(f2 w.heap.size w).alloc Qp (.cells #[Pv b,Pv n,Pv c] 112);clear h
 generalize a.kd=e at B l
 obtain⟨i,o,m,z,j,k,q,f,p,r,t,s,u,v⟩:=l;have U:(e==1)=false:=by simpa using i
 have O:(e==6)=false:=by simpa using o
 have N:(e==5)=false:=by simpa using m
 have L:(e==37)=false:=by simpa using z
 have W:(e==2)=false:=by simpa using j
 have X:(e==3)=false:=by simpa using k
 have M:(e==4)=false:=by simpa using q
 have F:(e==13)=false:=by simpa using f
 have P:(e==7)=false:=by simpa using p
 have R:(e==8)=false:=by simpa using r
 have S:(e==9)=false:=by simpa using t
 have E:(e==10)=false:=by simpa using s
 have H:(e==24)=false:=by simpa using u
 have I:(e==34)=false:=by simpa using v
 clear i o m z j k q f p r t s u v;go_enter func104,j5;go_wp2;go_ret;exact⟨rfl,D⟩
def XT (z:hr a.kd<=a.fJ.length):Pq 104 #[O5 d,YX b n c] w λe u=>e=PK (VZ (iS a b n c))/\Pn w u:=by
 unfold iS
 by_cases r:a.kd=1
 ·rw[fL r];exact OM a d b n c w h g r
 rw[fK r]
 by_cases s:a.kd=6
 ·rw[fL s];exact aLk a d b n c w h g s
 rw[fK s]
 by_cases j:a.kd=5\/a.kd=37
 ·rw[fL j];have q:hr a.kd=2:=by unfold hr;rw[fL (j.imp id fM)]
  rcases j with f|f
  ·exact aLl a d b n c w h g f O9
  ·exact aDO a d b n c w h g f O9
 rw[fK j]
 by_cases i:a.kd=2\/a.kd=3\/a.kd=4
 ·rw[fL i]
  rcases i with f|f|f
  ·exact Mp a d b n c w h g f
  ·exact XN a d b n c w h g f
  ·exact aLr a d b n c w h g f
 rw[fK i];have q:∀ l:Int,(l=13\/l=24\/l=34)->a.kd=l->1<=a.fJ.length:=λl v e=>by
  have:hr a.kd=1:=by
   rw[e]
   rcases v with rfl|rfl|rfl <;> decide
  omega
 by_cases p:a.kd=13
 ·rw[fL p];exact Wm a d b n c w h g p (q _ P7 p)
 rw[fK p]
 by_cases k:a.kd=7\/a.kd=8\/a.kd=9
 ·rw[fL k]
  rcases k with f|f|f
  ·exact aLm a d b n c w h g f
  ·exact aLn a d b n c w h g f
  ·exact aLo a d b n c w h g f
 rw[fK k]
 by_cases t:a.kd=10
 ·rw[fL t];exact aDQ a d b n c w h g t
 rw[fK t]
 by_cases m:a.kd=24
 ·rw[fL m];exact aDR a d b n c w h g m (q _ P7 m)
 rw[fK m]
 by_cases o:a.kd=34
 ·rw[fL o];exact M8 a d b n c w h g o (q _ P7 o)
 rw[fK o];exact wrE a d b n c w h ⟨r,s,λe=>j (fM e),λe=>j (fU e),λe=>i (fM e),λe=>i (fU (fM e)),λe=>i (fU (fU e)),p,λe=>k (fM e),λe=>k (fU (fM e)),λe=>k (fU (fU e)),t,m,o⟩
end
def s2 (a:Tr)(b:Bool):Bool:=if QU a then (b||PO a)||PO (Qz a 1) else b||PO a
def i2 (b:Tr)(a:Bool):Bool:=if QU b then true else a
mutual
def g5:Tr->Bool->Bool->Bool->Option Int
 | .mk b d c a,f,e,g=>match iS (.mk b d c a) (s2 (.mk b d c a) f) (i2 (.mk b d c a) e) g with
  | some i=>some i
  | none=>Uk a (s2 (.mk b d c a) f) (i2 (.mk b d c a) e) (QU (.mk b d c a))
def Uk:List Tr->Bool->Bool->Bool->Option Int
 | [],_,_,_=>none
 | e::f,c,b,a=>match g5 e c b a with
  | some d=>some d
  | none=>Uk f c b a
end
def qE (a:Tr)(c b d:Bool):g5 a c b d=match iS a (s2 a c) (i2 a b) d with
  | some e=>some e
  | none=>Uk a.fJ (s2 a c) (i2 a b) (QU a):=by
 cases a with
 | mk e i g f=>rw[g5];rfl
def XU:∀ (e:List Tr) (c b a:Bool) (d:Nat) (g:d<e.length),Uk (e.take d) c b a=none->g5 e[d] c b a=none->Uk (e.take (d+1)) c b a=none
 | [],_,_,_,d,g=>absurd g P7
 | i::e,c,b,a,0,_=>λ_ h=>by
  rw[kq,jk,Uk];rw[show g5 i c b a=none from h];rw[Uk]
 | i::e,c,b,a,d+1,g=>λf j=>by
  rw[kq,Uk] at f ⊢
  cases h:g5 i c b a with
  | some k=>rw[h] at f;cases f
  | none=>
   rw[h] at f;exact XU e c b a d (by simpa using g) f j
def Y1:∀ (e:List Tr) (c b a:Bool) (f:Nat) (i:f<e.length) (d:Int),Uk (e.take f) c b a=none->g5 e[f] c b a=some d->Uk e c b a=some d
 | [],_,_,_,f,i,_=>absurd i P7
 | j::e,c,b,a,0,_,d=>λ_ h=>by
  rw[Uk,show g5 j c b a=some d from h]
 | j::e,c,b,a,f+1,i,d=>λg k=>by
  rw[kq,Uk] at g;rw[Uk]
  cases h:g5 j c b a with
  | some d=>rw[h] at g;cases g
  | none=>
   rw[h] at g;exact Y1 e c b a f (by simpa using i) d g k
abbrev jm (a:Nat)(d c b:Bool)(e:Pe):Prop:=e.heap[a]? = some (PZ #[Pv d,Pv c,Pv b] 112)
def jm.at {a:Nat}{d c b:Bool}{e:Pe}(h:jm a d c b e):YO a d c b e:=⟨by rw[cell_of h];rfl,by rw[cell_of h];rfl,by rw[cell_of h];rfl⟩
def DA (j:Nat):Prop:=∀ (a:Tr),a.count<=j->a.kr=0->a.count<=20000->∀ (e:Nat) (f d c:Bool) (b:Pe),TV b a e ->
  Pq 48 #[O5 e,YX f d c] b λi g=>i=PK (VZ (g5 a f d c))/\Pn b g
section
variable {br:Nat} (aQ:DA br) (a:Tr) (be:a.count<=br+1) (ap:a.kr=0) (am:a.count<=20000) (i:Nat) (n N:Bool) (w:Pe) (h:TV w a i)
include aQ be ap am h
def aDV (l:QU a=false):Pq 48 #[O5 i,YX true n N] w λm g=>m=PK (VZ (g5 a true n N))/\Pn w g:=by
 have b{G}(h:G:=by
 obtain⟨ac,M⟩:=qD a ap;have aD:s2 a true=true:=by unfold s2;rw[l];simp[]
 have aC:i2 a n=n:=by unfold i2;rw[l];rfl
 have s:=qE a true n N;have b{G}(h:G:=by
 have R:=Y (λd (k:Pn w d)=>XT a i true n N d (cH d k) am ac);have aZ:Hid (∀ d,Pn w d->Pq 102 #[O5 i] d λm g=>m=PK (Pv false)/\g=d):=λd k=>wY
 have b{G}(h:G:=by
 have aI:Hid (∀ (j:Nat) (q:j<a.fJ.length) (f:Nat) (d:Pe),TV d a.fJ[j] f->Pq 48 #[O5 f,YX true n false] d λm g=>m=PK (VZ (g5 a.fJ[j] true n false))/\Pn d g):=λj q f d ba=>by
  have ad:=TF a.fJ j q;exact aQ a.fJ[j] O9 (M _ (gT _)) O9 f true n false d ba
 obtain⟨bj,F⟩:=xE (iS a true n N);obtain⟨aV,E⟩:=xE (Uk a.fJ true n false);rw[<-F,<-E] at s;simp only[<-F] at R;rw[s];have aK:=Y E;have bC:=(f2 w.heap.size w).alloc Qp (.cells #[Pv true,Pv n,Pv N] 112);have b{G}(h:G:=by
 refine um ?_;rintro m bm ⟨rfl,rfl⟩;go_wp2_with fail;obtain⟨C,p⟩:=xE (w.alloc (.cells #[Pv true,Pv n,Pv N] 112));have A:Pn w C:=by rw[p];exact QJ
 have H:jm w.heap.size true n N C:=by rw[p];exact Ph _ _
 have b{G}(h:G:=by
 have I:jm w.heap.size true n N aS:=(ai.block w.heap.size (fI H)).trans H;have W:=A.trans (ai.mono A.size);clear p
 cases bj with
 | some m=>
  unfold VZ;go_wp2;go_ret;exact⟨rfl,W⟩
 | none=>
  have b{G}(h:G:=by
  obtain⟨T,t⟩:=xE (ax.setCell (O7 w.heap.size 2) (Pv false));have aG:jm w.heap.size true n false T:=by rw[t,jm,gi I];rfl
  have b{G}(h:G:=by
  go_loopw [41] (λa8 wr=>∃ j:Nat,j<=a.fJ.length/\a8=O3 j/\Uk (a.fJ.take j) true n false=none/\Pn T wr) (λa8 _=>a.fJ.length - (intOf a8).toNat)
  case atStart=>exact⟨0,f3 _,rfl,by rw[jk,Uk],RP⟩
  case round=>
   have b{G}(h:G:=by
   by_cases o:j<a.fJ.length
   ·obtain⟨bq,bf,f,B,bB,aN,aX⟩:=(aJ.fH O).cell j o;have b{G}(h:G:=by
    have bn:(j:Int)<(a.fJ.length:Int):=O9;have aF:jm w.heap.size true n false wr:=(O.block w.heap.size (fI aG)).trans aG;have b{G}(h:G:=by
    have aj:=Y (λm=>Y1 a.fJ true n false j o m D.out);have ah:=Y (XU a.fJ true n false j o D.out)
    generalize g5 a.fJ[j] true n false=aY at U aj ah
    exact vd):=O6 h;exact s4):=O6 h;exact UM
   ·exact sx):=O6 h;exact qq):=O6 h;exact Kz):=O6 h;exact vf):=O6 h;exact ud):=O6 h;exact uC):=O6 h;exact q0):=O6 h;exact qX):=O6 h;exact oh
def aDX (l:QU a=true):Pq 48 #[O5 i,YX true n N] w λm g=>m=PK (VZ (g5 a true n N))/\Pn w g:=by
 have b{G}(h:G:=by
 obtain⟨H,M⟩:=qD a ap;have aD:s2 a true=true:=by unfold s2;rw[l];simp[]
 have aC:i2 a n=true:=by unfold i2;rw[l];rfl
 have s:=qE a true n N;have b{G}(h:G:=by
 have R:=Y (λd (k:Pn w d)=>XT a i true true N d (cH d k) am H);have b{G}(h:G:=by
 have b{G}(h:G:=by
 have b{G}(h:G:=by
 have ac:=(f2 w.heap.size w).alloc Qp (.cells #[Pv true,Pv n,Pv N] 112);clear be ap am h z H M aD aC cH F E s;go_enter func48,ntmps48;exact DT):=O6 h;exact Gi):=O6 h;exact q0):=O6 h;exact yE):=O6 h;exact qX):=O6 h;exact oh
def aD0 (l:QU a=false):Pq 48 #[O5 i,YX false n N] w λm g=>m=PK (VZ (g5 a false n N))/\Pn w g:=by
 have b{G}(h:G:=by
 obtain⟨ac,M⟩:=qD a ap;have aD:s2 a false=(PO a):=by unfold s2;rw[l];simp[]
 have aC:i2 a n=n:=by unfold i2;rw[l];rfl
 have s:=qE a false n N;have b{G}(h:G:=by
 have R:=Y (λd (k:Pn w d)=>XT a i (PO a) n N d (cH d k) am ac);have aZ:Hid (∀ d,Pn w d->Pq 102 #[O5 i] d λm g=>m=PK (Pv false)/\g=d):=λd k=>wY
 have aG:=Y (λd (k:Pn w d)=>Uo a i d (cH d k));have b{G}(h:G:=by
 have aI:Hid (∀ (j:Nat) (q:j<a.fJ.length) (f:Nat) (d:Pe),TV d a.fJ[j] f->Pq 48 #[O5 f,YX (PO a) n false] d λm g=>m=PK (VZ (g5 a.fJ[j] (PO a) n false))/\Pn d g):=λj q f d bm=>by
  have ad:=TF a.fJ j q;exact aQ a.fJ[j] O9 (M _ (gT _)) O9 f (PO a) n false d bm
 obtain⟨bn,F⟩:=xE (iS a (PO a) n N);obtain⟨aV,E⟩:=xE (Uk a.fJ (PO a) n false);have b{G}(h:G:=by
 generalize PO a=H at R aG aI aK
 have b{G}(h:G:=by
 refine xM ?_;rintro m bC ⟨rfl,rfl⟩;go_wp2_with fail;refine um ?_;rintro m bq ⟨rfl,rfl⟩;go_wp2_with fail;obtain⟨C,p⟩:=xE (w.alloc (.cells #[Pv H,Pv n,Pv N] 112));have A:Pn w C:=by rw[p];exact QJ
 have ba:jm w.heap.size H n N C:=by rw[p];exact Ph _ _
 have b{G}(h:G:=by
 have I:jm w.heap.size H n N aS:=(ai.block w.heap.size (fI ba)).trans ba;have W:=A.trans (ai.mono A.size);clear p
 cases bn with
 | some m=>
  unfold VZ;go_wp2;go_ret;exact⟨rfl,W⟩
 | none=>
  have b{G}(h:G:=by
  obtain⟨T,t⟩:=xE (ax.setCell (O7 w.heap.size 2) (Pv false));have bj:jm w.heap.size H n false T:=by rw[t,jm,gi I];rfl
  have b{G}(h:G:=by
  go_loopw [41] (λa8 wr=>∃ j:Nat,j<=a.fJ.length/\a8=O3 j/\Uk (a.fJ.take j) H n false=none/\Pn T wr) (λa8 _=>a.fJ.length - (intOf a8).toNat)
  case atStart=>exact⟨0,f3 _,rfl,by rw[jk,Uk],RP⟩
  case round=>
   have b{G}(h:G:=by
   by_cases o:j<a.fJ.length
   ·obtain⟨bR,bB,f,B,bS,aN,aX⟩:=(aJ.fH O).cell j o;have b{G}(h:G:=by
    have bQ:(j:Int)<(a.fJ.length:Int):=O9;have aF:jm w.heap.size H n false wr:=(O.block w.heap.size (fI bj)).trans bj;have b{G}(h:G:=by
    have aj:=Y (λm=>Y1 a.fJ H n false j o m D.out);have ah:=Y (XU a.fJ H n false j o D.out)
    generalize g5 a.fJ[j] H n false=aY at U aj ah
    exact vd):=O6 h;exact s4):=O6 h;exact UM
   ·exact sx):=O6 h;exact qq):=O6 h;exact Kz):=O6 h;exact vf):=O6 h;exact ud):=O6 h;exact uC):=O6 h;exact Fl):=O6 h;exact q0):=O6 h;exact qX):=O6 h;exact oh
def aD2 (l:QU a=true)(H:PO a=true):Pq 48 #[O5 i,YX false n N] w λm g=>m=PK (VZ (g5 a false n N))/\Pn w g:=by
 have b{G}(h:G:=by
 obtain⟨ac,M⟩:=qD a ap;have aD:s2 a false=true:=by unfold s2;rw[l];simp[H]
 have aC:i2 a n=true:=by unfold i2;rw[l];rfl
 have s:=qE a false n N;have b{G}(h:G:=by
 have R:=Y (λd (k:Pn w d)=>XT a i true true N d (cH d k) am ac);have b{G}(h:G:=by
 have aG:=Y (λd (k:Pn w d)=>Uo a i d (cH d k));have b{G}(h:G:=by
 have b{G}(h:G:=by
 have bq:=(f2 w.heap.size w).alloc Qp (.cells #[Pv false,Pv n,Pv N] 112);simp only[H] at aG;have b{G}(h:G:=by
 refine xM ?_;rintro m bo ⟨rfl,rfl⟩;exact DT):=O6 h;exact uC):=O6 h;exact Gi):=O6 h;exact q0):=O6 h;exact yE):=O6 h;exact qX):=O6 h;exact oh
def aD3 (l:QU a=true)(bn:PO a=false):Pq 48 #[O5 i,YX false n N] w λm g=>m=PK (VZ (g5 a false n N))/\Pn w g:=by
 have b{G}(h:G:=by
 obtain⟨ac,M⟩:=qD a ap;have aD:s2 a false=(PO (Qz a 1)):=by unfold s2;rw[l];simp[bn]
 have aC:i2 a n=true:=by unfold i2;rw[l];rfl
 have s:=qE a false n N;have b{G}(h:G:=by
 have R:=Y (λd (k:Pn w d)=>XT a i (PO (Qz a 1)) true N d (cH d k) am ac);have b{G}(h:G:=by
 have aG:=Y (λd (k:Pn w d)=>Uo a i d (cH d k));have b{G}(h:G:=by
 have bj:=Y (λ(f:Nat) (d:Pe) (aJ:TV d (Qz a 1) f)=>Uo (Qz a 1) f d aJ);have aI:Hid (∀ (j:Nat) (q:j<a.fJ.length) (f:Nat) (d:Pe),TV d a.fJ[j] f->Pq 48 #[O5 f,YX (PO (Qz a 1)) true true] d λm g=>m=PK (VZ (g5 a.fJ[j] (PO (Qz a 1)) true true))/\Pn d g):=λj q f d aJ=>by
  have ad:=TF a.fJ j q;exact aQ a.fJ[j] O9 (M _ (gT _)) O9 f (PO (Qz a 1)) true true d aJ
 obtain⟨bB,F⟩:=xE (iS a (PO (Qz a 1)) true N);obtain⟨aV,E⟩:=xE (Uk a.fJ (PO (Qz a 1)) true true);have b{G}(h:G:=by
 simp only[bn] at aG
 generalize PO (Qz a 1)=H at R aI aK bj
 have b{G}(h:G:=by
 refine xM ?_;rintro m bR ⟨rfl,rfl⟩;go_wp2_with fail;refine um ?_;rintro m bm ⟨rfl,rfl⟩;go_wp2_with fail;refine cm (O4 bD l _ ((f2 w.heap.size w).alloc Qp _)) ?_;rintro m bm ⟨⟨f,rfl,aJ⟩,rfl⟩;have U:=O4 bj f _ aJ;go_wp2_with fail;refine cm U ?_;rintro m bm ⟨rfl,rfl⟩;go_wp2_with fail;obtain⟨C,p⟩:=xE (w.alloc (.cells #[Pv H,Pv true,Pv N] 112));have A:Pn w C:=by rw[p];exact QJ
 have bo:jm w.heap.size H true N C:=by rw[p];exact Ph _ _
 have b{G}(h:G:=by
 have I:jm w.heap.size H true N aS:=(ai.block w.heap.size (fI bo)).trans bo;have W:=A.trans (ai.mono A.size);clear p
 cases bB with
 | some m=>
  unfold VZ;go_wp2;go_ret;exact⟨rfl,W⟩
 | none=>
  have b{G}(h:G:=by
  obtain⟨T,t⟩:=xE (ax.setCell (O7 w.heap.size 2) (Pv true));have bq:jm w.heap.size H true true T:=by rw[t,jm,gi I];rfl
  have au:Pn w T:=zr
  have b{G}(h:G:=by
  go_loopw [41] (λa8 wr=>∃ j:Nat,j<=a.fJ.length/\a8=O3 j/\Uk (a.fJ.take j) H true true=none/\Pn T wr) (λa8 _=>a.fJ.length - (intOf a8).toNat)
  case atStart=>exact⟨0,f3 _,rfl,by rw[jk,Uk],RP⟩
  case round=>
   have b{G}(h:G:=by
   by_cases o:j<a.fJ.length
   ·obtain⟨bT,bQ,f,B,bU,aN,aX⟩:=(ba.fH O).cell j o;have b{G}(h:G:=by
    have bS:(j:Int)<(a.fJ.length:Int):=O9;have aF:jm w.heap.size H true true wr:=(O.block w.heap.size (fI bq)).trans bq;have b{G}(h:G:=by
    have aj:=Y (λm=>Y1 a.fJ H true true j o m D.out);have ah:=Y (XU a.fJ H true true j o D.out)
    generalize g5 a.fJ[j] H true true=aY at U aj ah
    exact vd):=O6 h;exact s4):=O6 h;exact UM
   ·exact sx):=O6 h;exact qq):=O6 h;exact Ge):=O6 h;exact vf):=O6 h;exact ud):=O6 h;exact uC):=O6 h;exact Fl):=O6 h;exact q0):=O6 h;exact yE):=O6 h;exact qX):=O6 h;exact oh
end
def aog:∀ l,DA l:=by
 intro l
 induction l with
 | zero=>
  exact tl
 | succ l e=>
  intro a g i c j n f d k h
  cases n with
  | true=>
   cases b:QU a with
   | true=>exact aDX e a g i c j f d k h b
   | false=>exact aDV e a g i c j f d k h b
  | false=>
   cases b:QU a with
   | false=>exact aD0 e a g i c j f d k h b
   | true=>
    cases m:PO a with
    | true=>exact aD2 e a g i c j f d k h b m
    | false=>exact aD3 e a g i c j f d k h b m
def A1 (a:Tr)(e:Nat)(c b:Bool)(d:Pe)(h:TV d a e)(j:a.kr=0)(f:a.count<=20000):Pq 26 #[O5 e,Pv c,Pv b] d λi k=>i=PK (VZ (g5 a c b false))/\Pn d k:=by
 have g:=aog a.count a Qp j f e c b false d h;clear h j f
 generalize g5 a c b false=m at g
 cases m <;>
 ·go_enter func26,ntmps26;go_wp2_with fail;refine cm g ?_;rintro i n ⟨rfl,l⟩;unfold VZ;go_wp2;go_ret;exact⟨rfl,l⟩
def Y2 {b a:Bool}{x:Py}(c:a=true->b=true)(h:iR b x=none):iR a x=none:=by
 unfold iR at h ⊢
 cases a with
 | false=>rfl
 | true=>rw[c rfl] at h;exact h
def On {d a:Bool}{P:List Tr}{c:Nat}(e:a=true->d=true)(h:VN d P c=none):VN a P c=none:=by
 unfold VN at h ⊢
 cases b:iR d (l4 P c) with
 | some f=>rw[b] at h;cases h
 | none=>
  rw[b] at h;rw[Y2 e b]
  cases a with
  | false=>rfl
  | true=>rw[e rfl] at h;exact h
def A4 {b d:Nat->Option Int}(e:∀ c,b c=none->d c=none):∀ a,U7 b a=none->U7 d a=none
 | 0,_=>rfl
 | a+1,h=>by
  rw[U7] at h ⊢
  cases c:U7 b a with
  | some f=>rw[c] at h;cases h
  | none=>
   rw[c] at h;rw[A4 e a c];exact e a h
section
variable {b c:Bool} {a:Tr} (d:c=true->b=true)
include b c a d
def MR (h:nq a b=none):nq a c=none:=by
 unfold nq at h ⊢
 cases f:iR b a.tx with
 | some i=>rw[f] at h;cases h
 | none=>
  rw[f] at h;rw[Y2 d f]
  cases e:uy b (Qz a 0).fJ with
  | some i=>simp only[e] at h;cases h
  | none=>
   simp only[e] at h;have g:uy c (Qz a 0).fJ=none:=A4 (λj=>On d) _ e;simp only[g];exact h
def ah8 (h:Yi a b=none):Yi a c=none:=by
 unfold Yi at h ⊢
 cases e:iR b a.tx with
 | some f=>rw[e] at h;cases h
 | none=>
  rw[e] at h;rw[Y2 d e];exact h
def aqw (h:lW a b=none):lW a c=none:=by
 unfold lW at h ⊢
 cases c with
 | true=>rw[d rfl] at h;exact h
 | false=>
  split at h
  ·
   cases h
  ·rename_i f
   rw[fK];intro e;exact f (by simp at e ⊢;exact fU e)
end
def aqx {j:Tr}{i d g f e:Bool}(b:d=true->i=true)(k:g=true->f=true)(h:iS j i g e=none):iS j d f e=none:=by
 unfold iS at h ⊢
 split at h
 ·rename_i a;rw[fL a];exact h
 rename_i l;rw[fK l]
 split at h
 ·rename_i a;rw[fL a];exact h
 rename_i m;rw[fK m]
 split at h
 ·rename_i a;rw[fL a];exact MR b h
 rename_i n;rw[fK n]
 split at h
 ·rename_i a;rw[fL a];exact Y2 b h
 rename_i p;rw[fK p]
 split at h
 ·rename_i a;rw[fL a];exact ah8 b h
 rename_i o;rw[fK o]
 split at h
 ·rename_i a;rw[fL a];exact aqw b h
 rename_i r;rw[fK r]
 split at h
 ·rename_i a
  rw[fL a]
  split at h
  ·rename_i c;rw[fL (k c)]
  ·
   cases h
 rename_i q;rw[fK q]
 split at h
 ·rename_i a
  rw[fL a]
  split at h
  ·rename_i c;rw[fL c];exact Y2 b h
  ·rename_i c;rw[fK c]
 rename_i s;rw[fK s]
 split at h
 ·rename_i a
  rw[fL a]
  cases d with
  | false=>rfl
  | true=>rw[b rfl] at h;exact h
 ·rename_i a;rw[fK a]
def Bm {c:Tr}{b a:Bool}(d:a=true->b=true):s2 c a=true->s2 c b=true:=by
 unfold s2
 cases a with
 | false=>cases b <;> cases QU c <;> simp <;> exact λh=>h
 | true=>rw[d rfl];exact λh=>h
def D9 {a:Tr}{c b:Bool}(d:c=true->b=true):i2 a c=true->i2 a b=true:=by
 unfold i2
 cases QU a with
 | true=>exact λh=>h
 | false=>exact d
mutual
def R6:∀ (n:Tr) {d e b g a:Bool},(e=true->d=true)->(b=true->g=true)->g5 n d b a=none->g5 n e g a=none
 | .mk i k j c,d,e,b,g,a,l,m,h=>by
  rw[g5] at h ⊢
  cases f:iS (.mk i k j c) (s2 (.mk i k j c) d) (i2 (.mk i k j c) b) a with
  | some o=>rw[f] at h;cases h
  | none=>
   rw[f] at h;rw[aqx (Bm l) (D9 m) f];exact KH c (Bm l) (D9 m) h
def KH:∀ (d:List Tr) {c e b g a:Bool},(e=true->c=true)->(b=true->g=true)->Uk d c b a=none->Uk d e g a=none
 | [],_,_,_,_,_,_,_,_=>by rw[Uk]
 | k::d,c,e,b,g,a,i,j,h=>by
  rw[Uk] at h ⊢
  cases f:g5 k c b a with
  | some l=>rw[f] at h;cases h
  | none=>
   rw[f] at h;rw[R6 k i j f];exact KH d i j h
end
