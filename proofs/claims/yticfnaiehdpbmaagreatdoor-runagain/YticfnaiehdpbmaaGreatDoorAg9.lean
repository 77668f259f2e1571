import Derived.Test.YticfnaiehdpbmaaGreatDoorAg7
import Derived.Test.YticfnaiehdpbmaaGreatDoorAg6
import Derived.Lib.SliceRun
import Derived.OwnWalk
set_option maxRecDepth 100000
set_option maxHeartbeats 8000000
set_option linter.unusedVariables false
namespace Go.Proofs.YticfnaiehdpbmaaGreatDoor
open Go.RowKit Go.Proofs.Tryz
theorem binds {α β:Type}{r:PR α}{f:α->Nat->PR β}{y:β}{j:Nat}(h:r.bind f=.ok y j):∃ x i,r=.ok x i/\f x i=.ok y j:=by
 cases r with
 | ok x i=>exact⟨x,i,rfl,h⟩
 | bad er p=>cases h
 | out=>cases h
theorem count_mk (kd:Int)(tx:NR)(n:Int)(ks:List Tr):(Tr.mk kd tx n ks).count=1+Tr.counts ks:=by rw[Tr.count]
theorem Oe:Tr.counts []=0:=by rw[Tr.counts]
theorem NZ (t:Tr)(am:List Tr):Tr.counts (t::am)=t.count+Tr.counts am:=by rw[Tr.counts]
theorem SL:∀ (am gj:List Tr),Tr.counts (am++gj)=Tr.counts am+Tr.counts gj
 | [],gj=>by rw[List.nil_append,Oe,Nat.zero_add]
 | t::am,gj=>by rw[List.cons_append,NZ,NZ,SL am gj,Nat.add_assoc]
theorem aaD (t:Tr):(TL t).count=t.count:=by
 unfold TL
 split
 ·rw[count_mk,count_mk]
 ·rfl
section
variable {l:List Tk}
theorem QL {s:NR}{i j:Nat}{x:Unit}(h:OD l s i=.ok x j):j=i+1:=by
 unfold OD at h
 split at h
 ·
  cases h;rfl
 ·
  cases h
theorem VX {s:NR}{i j:Nat}(h:nameP l i=.ok s j):j=i+1:=by
 unfold nameP at h
 split at h
 ·
  cases h;rfl
 ·
  cases h
def Cb (i:Nat)(r:PR Tr):Prop:=∀ t j,r=.ok t j->t.count+3 * i<=3 * j
def Cbs (i:Nat)(r:PR (List Tr)):Prop:=∀ t j,r=.ok t j->Tr.counts t+3 * i<=3 * j
theorem Tq {f:Nat->Nat->PR Tr}{d i:Nat}(h:Cb i (f (d+1) i)):Cb i (OL l f d i):=by
 unfold OL
 split
 ·intro t j e;cases e
 ·exact h
theorem aeO {shut:NR}{begins:Nat->Bool}{part:Nat->PR Tr}(al:∀ i,Cb i (part i)):∀ k be i t j,Ry l shut begins part k be i=.ok t j->Tr.counts t+3 * i<=Tr.counts be+3 * j:=by
 intro k
 induction k with
 | zero=>intro be i t j h;cases h
 | succ k bR=>
  intro be i t j h;unfold Ry at h
  split at h
  ·
   cases h
  ·obtain⟨u,a7,h1,h⟩:=binds h;have:=al i u a7 h1
   split at h
   ·
    cases h;rw[SL,NZ,Oe];omega
   ·obtain⟨_,i2,O,h⟩:=binds h;have ax:=QL O;have aU:=bR _ _ _ _ h;rw[SL,NZ,Oe] at aU;omega
theorem ac5 {opn shut:NR}{begins:Nat->Bool}{part:Nat->PR Tr}(al:∀ i,Cb i (part i)){k i j:Nat}{t:List Tr}(h:Vh l opn shut begins part k i=.ok t j):Tr.counts t+3 * i+3<=3 * j:=by
 unfold Vh at h;obtain⟨_,a7,h1,h⟩:=binds h;have O:=QL h1
 split at h
 ·
  cases h;rw[Oe];omega
 ·have:=aeO al _ _ _ _ _ h;rw[Oe] at this;omega
structure FCb (F:Rq):Prop where
 st:∀ d i,Cb i (F.st d i)
 vl:∀ d i,Cb i (F.vl d i)
 pr:∀ b d i,Cb i (F.pr b d i)
 sg:∀ d i,Cb i (F.sg d i)
variable {F:Rq} (ak:FCb F)
include ak
theorem ac6 {d:Nat}:∀ k be i t j,PV l F d k be i=.ok t j->Tr.counts t+3 * i+3<=Tr.counts be+3 * j:=by
 intro k
 induction k with
 | zero=>intro be i t j h;cases h
 | succ k bR=>
  intro be i t j h;unfold PV at h;exact axy
theorem WU {d i j:Nat}{t:Tr}(h:Pj l F d i=.ok t j):t.count+3 * i+5<=3 * j:=by
 unfold Pj at h;obtain⟨_,a7,h1,h⟩:=binds h;obtain⟨am,i2,O,h⟩:=binds h;cases h;have ax:=QL h1;have aU:=ac6 ak _ _ _ _ _ O;rw[Oe] at aU;rw[count_mk];omega
omit ak in
theorem alI (i:Nat):Cb i (TS l i):=by
 intro t j h;unfold TS at h;obtain⟨_,a7,h1,h⟩:=binds h;cases h;have:=VX h1;rw[count_mk,Oe];omega
omit ak in
theorem ajH {i j:Nat}{t:Tr}(h:Rh l F i=.ok t j):t.count+3 * i+2<=3 * j:=by
 unfold Rh at h;obtain⟨am,a7,h1,h⟩:=binds h;cases h;have:=ac5 alI h1;rw[count_mk];omega
section
variable (d i:Nat)
include d i
theorem atp:Cb i (aeN l F d i):=Tq (ak.vl _ _)
theorem apg:Cb i (VA l F d i):=by
 intro t j h;unfold VA at h;obtain⟨_,a7,h1,h⟩:=binds h;obtain⟨_,i2,O,h⟩:=binds h;obtain⟨u,i3,ax,h⟩:=binds h;cases h;have av:=VX h1;have bC:=QL O;have ey:=Tq (l:=l) (ak.vl _ _) u _ ax;rw[count_mk,NZ,Oe];omega
theorem aaE:Cb i (Tj l F d i):=by
 intro t j h;unfold Tj at h;obtain⟨_,a7,h1,h⟩:=binds h;obtain⟨u,i2,O,h⟩:=binds h;obtain⟨_,i3,ax,h⟩:=binds h;cases h;have av:=QL h1;have bC:=Tq (l:=l) (ak.vl _ _) _ _ O;have ey:=QL ax;omega
theorem ajI:Cb i (UJ l F d i):=by
 intro t j h;unfold UJ at h;obtain⟨am,a7,h1,h⟩:=binds h;cases h;have:=ac5 (apg ak d) h1;rw[count_mk];omega
end
theorem ac7 {kd:Int}{s:NR}{d i j:Nat}{t:Tr}(h:QO l F kd s d i=.ok t j):t.count+3 * i<=3 * j:=by
 unfold QO at h;obtain⟨ps,a7,h1,h⟩:=binds h;obtain⟨b,i2,O,h⟩:=binds h;cases h;have av:=ajH h1;have bC:=WU ak O;rw[count_mk,NZ,NZ,Oe,aaD];omega
theorem ajJ (d i:Nat):Cb i (UK l F d i):=by
 intro t j h;unfold UK at h;obtain⟨_,a7,h1,h⟩:=binds h;have av:=QL h1
 split at h
 ·obtain⟨_,i2,O,h⟩:=binds h;have bC:=VX O;have:=ac7 ak h;omega
 ·have:=ac7 ak h;omega
theorem aph (d i:Nat):Cb i (Yq l F d i):=by
 intro t j h;unfold Yq at h;obtain⟨_,a7,h1,h⟩:=binds h;obtain⟨_,i2,O,h⟩:=binds h;have av:=QL h1;have bC:=VX O;have:=ac7 ak h;omega
theorem alJ (d i:Nat):Cb i (Uz l F d i):=by
 unfold Uz
 split
 ·exact aaE ak d i
 ·exact ajI ak d i
 ·exact ajJ ak d i
 ·split
  ·intro t j h;cases h;rw[count_mk,Oe];omega
  ·split
   ·intro t j h;cases h;rw[count_mk,Oe];omega
   ·split
    ·intro t j h;cases h;rw[count_mk,Oe];omega
    ·split
     ·intro t j h;cases h;rw[count_mk,Oe];omega
     ·intro t j h;cases h
theorem ac8 {d:Nat}:∀ k u i t j,QS l F d k u i=.ok t j->t.count+3 * i<=u.count+3 * j:=by
 intro k
 induction k with
 | zero=>intro u i t j h;cases h
 | succ k bR=>
  intro u i t j h;unfold QS at h
  split at h
  ·obtain⟨s,a7,h1,h⟩:=binds h;have av:=VX h1;have bC:=bR _ _ _ _ h;rw[count_mk,NZ,Oe] at bC;omega
  ·split at h
   ·obtain⟨am,a7,h1,h⟩:=binds h;have av:=ac5 (atp ak d) h1;have bC:=bR _ _ _ _ h;rw[count_mk,NZ] at bC;omega
   ·
    cases h;omega
theorem alK (d i:Nat):Cb i (TT l F d i):=by
 intro t j h;unfold TT at h;obtain⟨u,a7,h1,h⟩:=binds h;have av:=alJ ak d i u a7 h1;have bC:=ac8 ak _ _ _ _ _ h;omega
theorem ajK (d i:Nat):Cb i (Tn l F d i):=by
 unfold Tn
 split
 ·intro t j h;obtain⟨u,a7,h1,h⟩:=binds h;cases h;have:=Tq (l:=l) (ak.sg _ _) u _ h1;rw[count_mk,NZ,Oe];omega
 ·exact alK ak d i
theorem aeP {b:Int}{d:Nat}:∀ k u i t j,Si l F b d k u i=.ok t j->t.count+3 * i<=u.count+3 * j:=by
 intro k
 induction k with
 | zero=>intro u i t j h;cases h
 | succ k bR=>
  intro u i t j h;unfold Si at h
  split at h
  ·
   cases h;omega
  ·split at h
   ·
    cases h;omega
   ·obtain⟨v,a7,h1,h⟩:=binds h;have av:=ak.pr _ _ _ v a7 h1;have bC:=bR _ _ _ _ h;rw[count_mk,NZ,NZ,Oe] at bC;omega
theorem apj (b:Int)(d i:Nat):Cb i (WT l F b d i):=by
 intro t j h;unfold WT at h;obtain⟨u,a7,h1,h⟩:=binds h;have av:=ak.sg _ _ u a7 h1;have bC:=aeP ak _ _ _ _ _ h;omega
theorem alL (d i:Nat):Cb i (UY l F d i):=by
 intro t j h;unfold UY at h;obtain⟨u,a7,h1,h⟩:=binds h;have av:=ak.pr _ _ _ u a7 h1
 split at h
 ·split at h
  ·obtain⟨v,i2,O,h⟩:=binds h;cases h;have bC:=Tq (l:=l) (ak.vl _ _) v _ O;rw[count_mk,NZ,NZ,Oe];omega
  ·
   cases h
 ·
  cases h;exact av
theorem apk (d q i:Nat):Cb i (Yr l F d q i):=by
 intro t j h;unfold Yr at h
 split at h
 ·unfold Zz at h;obtain⟨s,a7,h1,h⟩:=binds h;have av:=VX h1
  split at h
  ·
   cases h
  ·split at h
   ·obtain⟨v,i2,O,h⟩:=binds h;obtain⟨_,i3,ax,h⟩:=binds h;cases h;have bC:=Tq (l:=l) (ak.vl _ _) v _ O;have ey:=QL ax;rw[count_mk,NZ,Oe];omega
   ·obtain⟨_,i3,ax,h⟩:=binds h;cases h;have ey:=QL ax;rw[count_mk,Oe];omega
 ·exact aph ak d i t j h
 ·have:=WU ak h;omega
 ·obtain⟨_,i3,ax,h⟩:=binds h;cases h;have ey:=QL ax;rw[count_mk,Oe];omega
 ·unfold UL at h;obtain⟨v,a7,h1,h⟩:=binds h;obtain⟨s,i2,O,h⟩:=binds h;have av:=aaE ak d _ v a7 h1;have bC:=Tq (l:=l) (ak.st _ _) s _ O
  split at h
  ·obtain⟨s2,i3,ax,h⟩:=binds h;cases h;have ey:=Tq (l:=l) (ak.st _ _) s2 _ ax;rw[count_mk,NZ,NZ,NZ,Oe];omega
  ·
   cases h;rw[count_mk,NZ,NZ,Oe];omega
 ·unfold RI at h;obtain⟨v,a7,h1,h⟩:=binds h;obtain⟨s,i2,O,h⟩:=binds h;cases h;have av:=aaE ak d _ v a7 h1;have bC:=Tq (l:=l) (ak.st _ _) s _ O;rw[count_mk,NZ,NZ,Oe];omega
 ·unfold Vj at h
  split at h
  ·exact axz
  ·obtain⟨_,i2,O,h⟩:=binds h;cases h;have bC:=QL O;rw[count_mk,Oe];omega
 ·have z:=kk (∀{G}(h:G:=by
  have aH:=QL h0;have av:=WU ak h1;have bC:Tr.counts c+3 * a7<=3 * i2:=by
   unfold Y3 at O
   split at O
   ·obtain⟨_,bV,b0,O⟩:=binds O;obtain⟨_,dB,d4,O⟩:=binds O;obtain⟨_,ir,d1,O⟩:=binds O;obtain⟨j0,k4,mQ,O⟩:=binds O;cases O;have:=QL b0;have:=VX d4;have:=QL d1;have:=WU ak mQ;rw[NZ,count_mk,NZ,Oe];omega
   ·
    cases O;rw[Oe];omega
  have ey:Tr.counts f+3 * i2<=3 * i3:=by
   unfold UZ at ax
   split at ax
   ·obtain⟨j0,k4,mQ,ax⟩:=binds ax;cases ax;have:=WU ak mQ;rw[NZ,count_mk,NZ,Oe];omega
   ·
    cases ax;rw[Oe];omega
  split at h
  ·
   cases h
  ·
   cases h;rw[count_mk,NZ,SL];omega),G);exact axA
theorem ac9 (d i:Nat):Cb i (Qv l F d i):=by
 unfold Qv
 split
 ·exact apk ak d _ i
 ·intro t j h;unfold ZA at h;exact axz
omit ak in
theorem atq:∀ k,FCb (fns l k):=by
 intro k
 induction k with
 | zero=>exact⟨fun _ _ _ _ h=>by (cases h),fun _ _ _ _ h=>by (cases h),fun _ _ _ _ _ h=>by (cases h),fun _ _ _ _ h=>by (cases h)⟩
 | succ k bR=>exact⟨ac9 bR,alL bR,apj bR,ajK bR⟩
theorem aeQ:∀ k be i t j,Qj l F k be i=.ok t j->Tr.counts t+3 * i<=Tr.counts be+3 * j:=by
 intro k
 induction k with
 | zero=>intro be i t j h;cases h
 | succ k bR=>
  intro be i t j h;unfold Qj at h;exact axy
theorem apl {t:Tr}{j:Nat}(h:Ui l F=.ok t j):t.count<=1+3 * j:=by
 unfold Ui at h;obtain⟨am,a7,h1,h⟩:=binds h;cases h;have:=aeQ ak _ _ _ _ _ h1;rw[Oe] at this;rw[aaD,count_mk];omega
end
namespace Hp
section
variable {H:Nat} {R:List NP} {w w1:Ny} {M:Mo} {az aB:NP} {os b7:List NP} {K:Nat}
theorem aiB:(prog.info? 262).map (fun i=>(i.zero,i.size,i.bytes))=some (some (.agg #[OG,Nr 0,Nr 0,OG,Nr 0,NI false]),6,64):=by kernel_rfl
theorem X0 (w:Ny)(H:Nat)(fk:w.heap.size=H)(x:NR)(b:Va)(c:Int)(r:Bool)(j:Nat)(u:NP)(h:([ND x,Nr b.k,Nr b.n,ND b.s,Nr c,NI r]:List NP)[j]? = some u) :
  (w.alloc (.cells #[ND x,Nr b.k,Nr b.n,ND b.s,Nr c,NI r] 262)).cell? (Addr.add (Nv H 0) j)=some u:=by
 subst fk
 match j,h with
 | 0,h=>simp at h;subst h;simp[Addr.add]
 | 1,h=>simp at h;subst h;simp[Addr.add]
 | 2,h=>simp at h;subst h;simp[Addr.add]
 | 3,h=>simp at h;subst h;simp[Addr.add]
 | 4,h=>simp at h;subst h;simp[Addr.add]
 | 5,h=>simp at h;subst h;simp[Addr.add]
 | k+6,h=>simp at h
theorem aaN (x:NR)(b:Va)(c:Int)(r:Bool):∀ u ∈ ([ND x,Nr b.k,Nr b.n,ND b.s,Nr c,NI r]:List NP),u.oneCell'=true:=by
 intro u aO;simp at aO
 rcases aO with rfl|rfl|rfl|rfl|rfl|rfl <;> rfl
theorem HP.aiC (h:HP H R w M az aB os b7){i:Nat}{x x':Ro}(ay:M.NQ[i]? = some x){v v':NP}(ap:b7[i]? = some v){g cap:Nat}(au:aB=.slice (some (Nv g 0)) (M.NQ.map Ro.h).length cap)
  (db:w.grownBy w1 v.ownBlock) (hown:w1.ownsRow H 262 6 v' x'.cs.length (x'.cs.flatMap Ce.h)) (iD:∀ q,v'.ownBlock=some q->v.ownBlock=some q\/w.heap.size<=q) (ac:x'.outer=x.outer/\x'.object=x.object) :
  HP H R (w1.setCell (Nv g (i * 3+2)) v') (M.Qw i x') az aB os (b7.set i v')/\OB Th H w (w1.setCell (Nv g (i * 3+2)) v'):=by
 have oH:(M.NQ.map Ro.h)[i]? = some x.h:=by simp[ay]
 have f9:=h.ro;rw[au] at f9;have aJ:=f9.put (Oi (lt_of_block h.blk)) oH ap db hown iD;rw[<-au] at aJ;refine h.ro1 (NQ:=M.NQ.set i x') ?_ aJ.2;rw[List.map_set];have:=aJ.1;rw[show x'.h=⟨x.h.hd,x'.cs.length,x'.cs.flatMap Ce.h⟩ by simp[Ro.h,ac]];exact this
theorem amo (h:HP H R w M az aB os b7)(s:Int)(nm:NR)(kd:Int)(n:Va)(aM:M.ro s=none) :
  NK 128 #[NM H 0,Nr s,ND nm,Nr kd,.agg #[Nr n.k,Nr n.n,ND n.s]] w fun e w'=>e=NU (.iface 34 (Nr 7))/\NJ w w':=by
 obtain⟨h0,h1,aG,hr,hl⟩:=h.c;have hout:s<0\/(M.NQ.length:Int)<=s:=by
  rcases OX M s with ⟨_,h⟩|⟨i,x,rfl,_,h⟩
  ·exact h
  ·rw[aM] at h;cases h
 have ah:=(V4 aB _ (Pv h.ro.row) s (by simpa using hout) (w.alloc (.cells #[Nr n.k,Nr n.n,ND n.s] 65)));clear h hout aM;go_enter func128,ntmps128;have z:=kk (∀{G}(h:G:=by
 go_ret;exact⟨rfl,OM⟩),G);exact aml
section
variable (h:HP H R w M az aB os b7) (ae:M.Small K) (A:K<=1000000000) (i:Nat) (x:Ro) (ay:M.NQ[i]? = some x) (nm:NR) (kd:Int) (n:Va)
include h ae A i x ay nm kd n
theorem amq (aM:x.object≠-1) :
  NK 128 #[NM H 0,Nr (i:Int),ND nm,Nr kd,.agg #[Nr n.k,Nr n.n,ND n.s]] w fun e w'=>e=NU (.iface 34 (Nr 1))/\NJ w w':=by
 have z:=kk (∀{G}(h:G:=by
 have z:=kk (∀{G}(h:G:=by
 have bP:=kk (∀{G}(h:G:=by
 go_ret;exact⟨rfl,eW⟩),G);exact zte),G);exact amr),G);exact zsz
theorem ag5 (aM:x.object = -1)(k:Nat)(c:Ce)(E:fC nm x.cs=some k)(ai:x.cs[k]? = some c) :
  NK 128 #[NM H 0,Nr (i:Int),ND nm,Nr kd,.agg #[Nr n.k,Nr n.n,ND n.s]] w fun e w'=>e=NU (.iface 34 (Nr 9))/\NJ w w':=by
 have z:=kk (∀{G}(h:G:=by
 have qV:=hrow';have z:=kk (∀{G}(h:G:=by
 rw[aM] at pB;obtain⟨iz,mO,rfl,_,_,_⟩:=atC hrow' ai;rw[E] at d3;simp only[ZM] at d3;clear E ai;obtain⟨el,l5⟩:=xH (w.alloc (.cells #[Nr n.k,Nr n.n,ND n.s] 65));have Ij:g<el.heap.size:=by rw[l5.out];exact hg
 rw[show w.alloc (vO n)=el by rw[l5.out]] at ah d3 pB fk qV k3 uH di eW;clear dP ay h ap bC mu ml hg;go_enter func128,ntmps128;have z:=kk (∀{G}(h:G:=by
 have bM:=(eW.trans (D.mono eW.size));go_wp2_with fail;go_ret;exact⟨rfl,bM⟩),G);exact atD),G);exact amr),G);exact zsz
theorem aj8 (aM:x.object = -1)(E:fC nm x.cs=none)(aY:kd=1) :
  NK 128 #[NM H 0,Nr (i:Int),ND nm,Nr kd,.agg #[Nr n.k,Nr n.n,ND n.s]] w fun e w'=>e=NU Pe/\(∃ mB,HP H R w' (M.Qw i ⟨x.outer,x.object,x.cs++[⟨nm,n,kd,false⟩]⟩) az aB os mB)/\OB Th H w w':=by
 have z:=kk (∀{G}(h:G:=by
 have z:=kk (∀{G}(h:G:=by
 subst aY;have z:=kk (∀{G}(h:G:=by
 refine wt 7 (Nr 1) ?_;refine wt 8 (NI false) ?_;refine wr2 4 6 (fun K A=>?ca) fun K A=>?cb
 case' ca=>
  go_simp;refine A _ _ ?_;clear A K;refine P6 6 fun K A=>?_;go_simp;refine A _ _ ?_;clear A K;refine wt 9 (.agg #[ND nm,Nr n.k,Nr n.n,ND n.s,Nr 1,NI false]) ?_;refine P6 10 fun K A=>?_;go_simp;refine A _ _ ?_;clear A K
 case' cb=>
  go_simp;refine A _ _ ?_;clear A K;refine wt 9 (.agg #[ND nm,Nr n.k,Nr n.n,ND n.s,Nr 1,NI false]) ?_;refine wr2 4 10 (fun K A=>?cc) fun K A=>?cd
 case' cc=>
  go_simp;refine A _ _ ?_;clear A K;refine P6 10 fun K A=>?_;go_simp;refine A _ _ ?_;clear A K
 case' cd=>
  go_simp;refine A _ _ ?_;clear A K;refine P6 4 fun K A=>?_;go_simp;refine A _ _ ?_;clear A K
 all_goals
  refine P6 11 fun K A=>?_;refine step_append_lies _ rfl _ _ 196 rfl H 262 mw _ 6 64 underlying196 d2 dH b6 cq rfl NH _ _ _ rfl (qW.drew.alloc _) (Nv w1.heap.size 0) 1 1 [ND nm,Nr n.k,Nr n.n,ND n.s,Nr 1,NI false] rfl rfl (X0 _ _ rfl _ _ _ _) (aaN _ _ _ _) NH (by have:=HLEN.out;unfold maxLen;omega) (by have:=HLEN.out;omega) Qa (w1.heap.size+1) Oq ?_
  intro hG hD ao hown3 eQ c7 _;refine A _ _ ?_;clear A K;have db:w1.grownBy ao v.ownBlock:=NS (NS (b:=w1.drew) ⟨rfl,rfl,rfl,OH,fun _ _ _=>rfl⟩ (World.grownBy_alloc _ _ _)) eQ;have aJ:=gr.aiC (x':=⟨x.outer,x.object,x.cs++[⟨nm,n,1,false⟩]⟩) f1.out bA.out jV.out db (v':=.slice (some (Nv hG 0)) (x.cs.length+1) hD) (by rw[List.flatMap_append];simpa[Ce.h] using hown3) (fun q ag=>by cases ag;exact c7.imp (fun e=>e) (fun e=>by rw[e];exact Nat.le_succ _)) ⟨rfl,rfl⟩
  have dN:=hide aJ;have kr:ao.cell? (Nv g (i * 3+2))=some v/\ao.frozen? (Nv g (i * 3+2))=false:=by
   have ci:some g≠v.ownBlock:=fun e=>by
    obtain⟨_,_,g1⟩:=gr.ro.nes bA.out;exact(g1 g e.symm).2.2.1 (by rw[jV.out];rfl)
   have hbk:=db.block g dx ci;exact⟨(World.cell?_of_block (w:=w1) (a:=(Nv g (i * 3+2))) hbk).trans f7,(World.frozen?_of_block (w:=w1) (a:=(Nv g (i * 3+2))) hbk).trans hfz1⟩
  obtain⟨ry,rz⟩:=kr;clear aJ c7 f7 hfz1 dm bT cY fp;refine wt 12 (NM g (i * 3)) ?_;refine wt 13 (NM g (i * 3+2)) ?_;refine P6 14 fun K A=>?_;go_simp;refine A _ _ ?_;clear A K;refine wpAny_done OJ ?_ _;go_simp;go_wp2_with fail;go_ret;exact⟨rfl,⟨_,dN.out.1⟩,(OB.of bM (Oi hl)).trans dN.out.2⟩),G);exact atH),G);exact amr),G);exact zsz
theorem ag6 (aM:x.object = -1)(E:fC nm x.cs=none)(aX:kd=2) :
  NK 128 #[NM H 0,Nr (i:Int),ND nm,Nr kd,.agg #[Nr n.k,Nr n.n,ND n.s]] w fun e w'=>e=NU Pe/\(∃ mB,HP H R w' (M.Qw i ⟨x.outer,x.object,x.cs++[⟨nm,n,kd,false⟩]⟩) az aB os mB)/\OB Th H w w':=by
 have z:=kk (∀{G}(h:G:=by
 have z:=kk (∀{G}(h:G:=by
 subst aX;have z:=kk (∀{G}(h:G:=by
 refine wt 7 (Nr 2) ?_;refine wt 8 (NI false) ?_;refine wr2 4 6 (fun K A=>?ca) fun K A=>?cb
 case' ca=>
  go_simp;refine A _ _ ?_;clear A K;refine P6 6 fun K A=>?_;go_simp;refine A _ _ ?_;clear A K;refine wt 9 (.agg #[ND nm,Nr n.k,Nr n.n,ND n.s,Nr 2,NI false]) ?_;refine P6 10 fun K A=>?_;go_simp;refine A _ _ ?_;clear A K
 case' cb=>
  go_simp;refine A _ _ ?_;clear A K;refine wt 9 (.agg #[ND nm,Nr n.k,Nr n.n,ND n.s,Nr 2,NI false]) ?_;refine wr2 4 10 (fun K A=>?cc) fun K A=>?cd
 case' cc=>
  go_simp;refine A _ _ ?_;clear A K;refine P6 10 fun K A=>?_;go_simp;refine A _ _ ?_;clear A K
 case' cd=>
  go_simp;refine A _ _ ?_;clear A K;refine P6 4 fun K A=>?_;go_simp;refine A _ _ ?_;clear A K
 all_goals
  refine P6 11 fun K A=>?_;refine step_append_lies _ rfl _ _ 196 rfl H 262 mw _ 6 64 underlying196 d2 dH b6 cq rfl NH _ _ _ rfl (qW.drew.alloc _) (Nv w1.heap.size 0) 1 1 [ND nm,Nr n.k,Nr n.n,ND n.s,Nr 2,NI false] rfl rfl (X0 _ _ rfl _ _ _ _) (aaN _ _ _ _) NH (by have:=HLEN.out;unfold maxLen;omega) (by have:=HLEN.out;omega) Qa (w1.heap.size+1) Oq ?_
  intro hG hD ao hown3 eQ c7 _;refine A _ _ ?_;clear A K;have db:w1.grownBy ao v.ownBlock:=NS (NS (b:=w1.drew) ⟨rfl,rfl,rfl,OH,fun _ _ _=>rfl⟩ (World.grownBy_alloc _ _ _)) eQ;have aJ:=gr.aiC (x':=⟨x.outer,x.object,x.cs++[⟨nm,n,2,false⟩]⟩) f1.out bA.out jV.out db (v':=.slice (some (Nv hG 0)) (x.cs.length+1) hD) (by rw[List.flatMap_append];simpa[Ce.h] using hown3) (fun q ag=>by cases ag;exact c7.imp (fun e=>e) (fun e=>by rw[e];exact Nat.le_succ _)) ⟨rfl,rfl⟩
  have dN:=hide aJ;have kr:ao.cell? (Nv g (i * 3+2))=some v/\ao.frozen? (Nv g (i * 3+2))=false:=by
   have ci:some g≠v.ownBlock:=fun e=>by
    obtain⟨_,_,g1⟩:=gr.ro.nes bA.out;exact(g1 g e.symm).2.2.1 (by rw[jV.out];rfl)
   have hbk:=db.block g dx ci;exact⟨(World.cell?_of_block (w:=w1) (a:=(Nv g (i * 3+2))) hbk).trans f7,(World.frozen?_of_block (w:=w1) (a:=(Nv g (i * 3+2))) hbk).trans hfz1⟩
  obtain⟨ry,rz⟩:=kr;clear aJ c7 f7 hfz1 dm bT cY fp;refine wt 12 (NM g (i * 3)) ?_;refine wt 13 (NM g (i * 3+2)) ?_;refine P6 14 fun K A=>?_;go_simp;refine A _ _ ?_;clear A K;refine wpAny_done OJ ?_ _;go_simp;go_wp2_with fail;go_ret;exact⟨rfl,⟨_,dN.out.1⟩,(OB.of bM (Oi hl)).trans dN.out.2⟩),G);exact atH),G);exact amr),G);exact zsz
theorem ag7 (aM:x.object = -1)(E:fC nm x.cs=none)(aY:kd≠1)(aX:kd≠2) :
  NK 128 #[NM H 0,Nr (i:Int),ND nm,Nr kd,.agg #[Nr n.k,Nr n.n,ND n.s]] w fun e w'=>e=NU Pe/\(∃ mB,HP H R w' (M.Qw i ⟨x.outer,x.object,x.cs++[⟨nm,n,kd,true⟩]⟩) az aB os mB)/\OB Th H w w':=by
 have z:=kk (∀{G}(h:G:=by
 have z:=kk (∀{G}(h:G:=by
 have z:=kk (∀{G}(h:G:=by
 refine wt 7 (Nr kd) ?_;refine wt 8 (NI true) ?_;refine wr2 4 6 (fun K A=>?ca) fun K A=>?cb
 case' ca=>
  go_simp;refine A _ _ ?_;clear A K;refine P6 6 fun K A=>?_;go_simp;refine A _ _ ?_;clear A K;refine wt 9 (.agg #[ND nm,Nr n.k,Nr n.n,ND n.s,Nr kd,NI true]) ?_;refine P6 10 fun K A=>?_;go_simp;refine A _ _ ?_;clear A K
 case' cb=>
  go_simp;refine A _ _ ?_;clear A K;refine wt 9 (.agg #[ND nm,Nr n.k,Nr n.n,ND n.s,Nr kd,NI true]) ?_;refine wr2 4 10 (fun K A=>?cc) fun K A=>?cd
 case' cc=>
  go_simp;refine A _ _ ?_;clear A K;refine P6 10 fun K A=>?_;go_simp;refine A _ _ ?_;clear A K
 case' cd=>
  go_simp;refine A _ _ ?_;clear A K;refine P6 4 fun K A=>?_;go_simp;refine A _ _ ?_;clear A K
 all_goals
  refine P6 11 fun K A=>?_;refine step_append_lies _ rfl _ _ 196 rfl H 262 mw _ 6 64 underlying196 d2 dH b6 cq rfl NH _ _ _ rfl (qW.drew.alloc _) (Nv w1.heap.size 0) 1 1 [ND nm,Nr n.k,Nr n.n,ND n.s,Nr kd,NI true] rfl rfl (X0 _ _ rfl _ _ _ _) (aaN _ _ _ _) NH (by have:=HLEN.out;unfold maxLen;omega) (by have:=HLEN.out;omega) Qa (w1.heap.size+1) Oq ?_
  intro hG hD ao hown3 eQ c7 _;refine A _ _ ?_;clear A K;have db:w1.grownBy ao v.ownBlock:=NS (NS (b:=w1.drew) ⟨rfl,rfl,rfl,OH,fun _ _ _=>rfl⟩ (World.grownBy_alloc _ _ _)) eQ;have aJ:=gr.aiC (x':=⟨x.outer,x.object,x.cs++[⟨nm,n,kd,true⟩]⟩) f1.out bA.out jV.out db (v':=.slice (some (Nv hG 0)) (x.cs.length+1) hD) (by rw[List.flatMap_append];simpa[Ce.h] using hown3) (fun q ag=>by cases ag;exact c7.imp (fun e=>e) (fun e=>by rw[e];exact Nat.le_succ _)) ⟨rfl,rfl⟩
  have dN:=hide aJ;have kr:ao.cell? (Nv g (i * 3+2))=some v/\ao.frozen? (Nv g (i * 3+2))=false:=by
   have ci:some g≠v.ownBlock:=fun e=>by
    obtain⟨_,_,g1⟩:=gr.ro.nes bA.out;exact(g1 g e.symm).2.2.1 (by rw[jV.out];rfl)
   have hbk:=db.block g dx ci;exact⟨(World.cell?_of_block (w:=w1) (a:=(Nv g (i * 3+2))) hbk).trans f7,(World.frozen?_of_block (w:=w1) (a:=(Nv g (i * 3+2))) hbk).trans hfz1⟩
  obtain⟨ry,rz⟩:=kr;clear aJ c7 f7 hfz1 dm bT cY fp;refine wt 12 (NM g (i * 3)) ?_;refine wt 13 (NM g (i * 3+2)) ?_;refine P6 14 fun K A=>?_;go_simp;refine A _ _ ?_;clear A K;refine wpAny_done OJ ?_ _;go_simp;go_wp2_with fail;go_ret;exact⟨rfl,⟨_,dN.out.1⟩,(OB.of bM (Oi hl)).trans dN.out.2⟩),G);exact atH),G);exact amr),G);exact zsz
end
theorem aaK {w:Ny}{B:Nat}{e:TypeId}{size g n cap m:Nat}{xs:List NP}(h:w.ownsRow B e size (.slice (some (Nv g 0)) n cap) n xs)(aV:m<=n):w.ownsRow B e size (.slice (some (Nv g 0)) m cap) m (xs.take (m * size)):=by
 have h1:=h.1
 rcases h.2 with ⟨fj,_⟩|⟨gX,cap',cl,fj,D,hg,aA,ac,ae,a'⟩
 ·simp at fj
 ·simp only[Value.slice.injEq,Option.some.injEq,Addr.mk.injEq,and_true,true_and] at fj;obtain⟨rfl,rfl⟩:=fj;have h5:m * size<=n * size:=Nat.mul_le_mul_right _ aV;refine⟨by rw[List.length_take,h1];omega,.inr ⟨g,cap,cl,rfl,D,hg,Nat.le_trans aV aA,ac,ae,?_⟩⟩
  rw[<-a',List.take_take,Nat.min_eq_left h5]
def Lm {α:Type}(bs:List α)(k m:Nat):List α:=(bs.eraseIdx k).take m++bs.drop m
section
variable {α:Type} {bs:List α}
include α bs
theorem alW {k m:Nat}(E:k<bs.length)(aV:m<bs.length):(Lm bs k m).length=bs.length:=by
 simp[Lm,List.length_eraseIdx,E];omega
theorem axR {k m j:Nat}(E:k<bs.length)(aV:m<bs.length)(aT:m<=j):(Lm bs k m)[j]? = bs[j]?:=by
 have hl:((bs.eraseIdx k).take m).length=m:=by simp[List.length_eraseIdx,E];omega
 rw[Lm,List.getElem?_append_right Nw,hl,List.getElem?_drop,Nat.add_sub_cancel' aT]
theorem ae1 {k:Nat}(_hk:k<bs.length):Lm bs k k=bs:=by
 rw[Lm,List.eraseIdx_eq_take_drop_succ,List.take_append_of_le_length Qa,List.take_take,Nat.min_self,List.take_append_drop]
theorem aiz {k m:Nat}{b:α}(E:k<=m)(aV:m+1<bs.length)(D:bs[m+1]? = some b):(Lm bs k m).set m b=Lm bs k (m+1):=by
 have cJ:k<bs.length:=Nw;have hl:((bs.eraseIdx k).take m).length=m:=by simp[List.length_eraseIdx,cJ];omega
 have au:(bs.eraseIdx k)[m]? = some b:=by rw[List.getElem?_eraseIdx,if_neg Nw];exact D
 rw[Lm,List.set_append_right _ _ Nw,hl,Nat.sub_self,Lm,List.take_add_one,au];rw[List.append_assoc]
 congr 1
 rw[List.drop_eq_getElem_cons (i:=m) Nw];rfl
theorem alX {k m:Nat}(E:k<bs.length)(aV:m+1=bs.length):(Lm bs k m).take m=bs.eraseIdx k:=by
 have hl:((bs.eraseIdx k).take m).length=m:=by simp[List.length_eraseIdx,E];omega
 rw[Lm,List.take_append_of_le_length Nw,List.take_take,Nat.min_self,List.take_of_length_le (by simp[List.length_eraseIdx,E];omega)]
end
theorem adh {α:Type}{f:α->List NP}{s:Nat}(aG:∀ a,(f a).length=s):∀ (l:List α) (m:Nat),(l.flatMap f).take (m * s)=(l.take m).flatMap f
 | [],m=>by simp
 | a::l,0=>by simp
 | a::l,m+1=>by
  have h:=adh aG l m;rw[List.flatMap_cons,show (m+1) * s=(f a).length+m * s by rw[aG,Nat.add_mul];omega,List.take_length_add_append,h,List.take_succ_cons,List.flatMap_cons]
theorem ae2:∀ (bs:List Pr) (k:Nat) (b:Pr),k<bs.length->((((((bs.flatMap Pr.h)).set (k * 5) (ND b.name)).set (k * 5+1) (Nr b.v.k)).set (k * 5+2) (Nr b.v.n)).set (k * 5+3) (ND b.v.s)).set (k * 5+4) (NI b.fixed)=(bs.set k b).flatMap Pr.h
 | [],k,b,h=>by simp at h
 | c::bs,0,b,h=>by simp[Pr.h]
 | c::bs,k+1,b,h=>by
  have:=ae2 bs k b (by simpa using h);have aH:(k+1) * 5=k * 5+1+1+1+1+1:=Nw;simp only[aH,List.set_cons_succ,List.flatMap_cons,Pr.h,List.cons_append,List.nil_append] at this ⊢;rw[this]
theorem arK (s:NR)(b:Pr)(bE:Nat)(w:Ny)(aJ:w.cell? (Nv bE 0)=some (ND s)) :
  NK 335 #[.agg #[ND b.name,Nr b.v.k,Nr b.v.n,ND b.v.s,NI b.fixed],NM bE 0] w fun e w'=>e=NU (NI (b.name.toList==s.toList))/\NJ w w':=by
 have qC:bE<w.heap.size:=World.block_lt_of_cell? w _ aJ;go_enter func335,ntmps335;go_wp2_with fail;go_ret;exact⟨rfl,OM⟩
theorem axS (g cap H:Nat)(bs:List Pr)(s:NR)(bE:Nat)(w:Ny)(hrow:w.ownsRow H 207 5 (.slice (some (Nv g 0)) bs.length cap) bs.length (bs.flatMap Pr.h))(aV:bs.length<=1000000000)(k:Nat)(E:fP s bs=some k)(aJ:w.cell? (Nv bE 0)=some (ND s)) :
  NK 350 #[.slice (some (Nv g 0)) bs.length cap,.func (.func 335) #[] #[NM bE 0]] w fun e w'=>e=NU (Nr k)/\NJ w w':=by
 have z:=kk (∀{G}(h:G:=by
 go_enter func350,ntmps350;go_wp2_with fail
 go_loopw [8] (fun i wr=>∃ m:Nat,m<=k/\i=Nr m/\NJ w wr) (fun i _=>k+1 - (intOf i).toNat)
 case atStart=>exact⟨0,Nat.zero_le _,rfl,P8⟩
 case round=>
  obtain⟨m,sG,rfl,D⟩:=hrel;have bI:m<bs.length:=Nw;obtain⟨b,lf⟩:∃ b,bs[m]? = some b:=⟨_,List.getElem?_eq_getElem bI⟩;obtain⟨gX,cap',hO,_,⟨bZ,dx,_⟩,_⟩:=atP (N9 hrow D) lf;have z:=kk (∀{G}(h:G:=by
  have gC:wr.cell? (Nv g (m * 5))=some (ND b.name):=bZ 0 _ rfl;have eq:=bZ 1 _ rfl;have hp:=bZ 2 _ rfl;have jG:=bZ 3 _ rfl;have lc:=bZ 4 _ rfl;have cq:wr.cell? (Nv bE 0)=some (ND s):=(cell_below D (a:=(Nv bE 0)) tt.out).trans dN.out;have ah:=(arK s b bE wr cq);exact axT),G);exact ae3),G);exact axU
def zP:List NP:=[OG,Nr 0,Nr 0,OG,NI false]
theorem ae4 (w:Ny)(g o cap:Nat)(ai:∀ j,j<5->(w.cell? (Nv g (o+j))).isSome=true)(aG:∀ j,w.frozen? (Nv g j)=false) :
  (Builtin.clear_ #[183] 0 #[.slice (some (Nv g o)) 1 cap]).run prog w=.ok (.tuple #[]) (w.setCells g o zP):=by
 have bF:=run_storeCells_cells (P:=prog) g o zP 0 w (by simpa[zP] using ai) (by simpa using fun j _=>aG (o+j)) (by intro v hO;simp[zP] at hO;rcases hO with rfl|rfl|rfl|rfl|rfl <;> rfl)
 simp only[Nat.add_zero] at bF;have ap:∀ w,(zeroValue 207).run prog w=.ok (.agg #[OG,Nr 0,Nr 0,OG,NI false]) w:=fun w=>by
  obtain⟨mw,d2,dH,b6,cq⟩:=info_parts aiA;simp[zeroValue,typeInfo,d2,dH]
 have nf:(Builtin.zeroCells (Value.agg #[OG,Nr 0,Nr 0,OG,NI false]).cells 1).toList=zP:=by kernel_rfl
 simp[Builtin.clear_,run_underlying underlying183,ap,nf,bF]
theorem ajX {w:Ny}{g cap H n o:Nat}{xs:List NP}(h:w.ownsRow H 207 5 (.slice (some (Nv g 0)) n cap) n xs)(j2:o<=n):(w.setCells g (o * 5) zP).ownsRow H 207 5 (.slice (some (Nv g 0)) o cap) o (xs.take (o * 5))/\w.grownBy (w.setCells g (o * 5) zP) (some g):=by
 obtain⟨bQ,aY⟩:=h.stored (o * 5) (OG);obtain⟨b5,aX⟩:=bQ.stored (o * 5+1) (Nr 0);obtain⟨d',cu⟩:=b5.stored (o * 5+2) (Nr 0);obtain⟨je,lU⟩:=d'.stored (o * 5+3) (OG);obtain⟨rD,sS⟩:=je.stored (o * 5+4) (NI false);have ac:((((((xs).set (o * 5) (OG)).set (o * 5+1) (Nr 0)).set (o * 5+2) (Nr 0)).set (o * 5+3) (OG)).set (o * 5+4) (NI false)).take (o * 5)=xs.take (o * 5):=by
  rw[List.take_set_of_le Nw,List.take_set_of_le Nw,List.take_set_of_le Nw,List.take_set_of_le Nw,List.take_set_of_le Nw]
 have ag:=NS (NS (NS (NS (aY) aX) cu) lU) sS;have U:=aaK rD j2;rw[ac] at U;exact⟨U,ag⟩
theorem ae5:∀ (bs:List Ce) (k:Nat) (b:Ce),k<bs.length->(((((((bs.flatMap Ce.h)).set (k * 6) (ND b.name)).set (k * 6+1) (Nr b.v.k)).set (k * 6+2) (Nr b.v.n)).set (k * 6+3) (ND b.v.s)).set (k * 6+4) (Nr b.kind)).set (k * 6+5) (NI b.ready)=(bs.set k b).flatMap Ce.h
 | [],k,b,h=>by simp at h
 | c::bs,0,b,h=>by simp[Ce.h]
 | c::bs,k+1,b,h=>by
  have:=ae5 bs k b (by simpa using h);have aH:(k+1) * 6=k * 6+1+1+1+1+1+1:=Nw;simp only[aH,List.set_cons_succ,List.flatMap_cons,Ce.h,List.cons_append,List.nil_append] at this ⊢;rw[this]
theorem arL (s:NR)(b:Ce)(bE:Nat)(w:Ny)(aJ:w.cell? (Nv bE 0)=some (ND s)) :
  NK 317 #[.agg #[ND b.name,Nr b.v.k,Nr b.v.n,ND b.v.s,Nr b.kind,NI b.ready],NM bE 0] w fun e w'=>e=NU (NI (b.name.toList==s.toList))/\NJ w w':=by
 have qC:bE<w.heap.size:=World.block_lt_of_cell? w _ aJ;go_enter func317,ntmps317;go_wp2_with fail;go_ret;exact⟨rfl,OM⟩
theorem axV (g cap H:Nat)(bs:List Ce)(s:NR)(bE:Nat)(w:Ny)(hrow:w.ownsRow H 262 6 (.slice (some (Nv g 0)) bs.length cap) bs.length (bs.flatMap Ce.h))(aV:bs.length<=1000000000)(k:Nat)(E:fC s bs=some k)(aJ:w.cell? (Nv bE 0)=some (ND s)) :
  NK 336 #[.slice (some (Nv g 0)) bs.length cap,.func (.func 317) #[] #[NM bE 0]] w fun e w'=>e=NU (Nr k)/\NJ w w':=by
 have z:=kk (∀{G}(h:G:=by
 go_enter func336,ntmps336;go_wp2_with fail
 go_loopw [8] (fun i wr=>∃ m:Nat,m<=k/\i=Nr m/\NJ w wr) (fun i _=>k+1 - (intOf i).toNat)
 case atStart=>exact⟨0,Nat.zero_le _,rfl,P8⟩
 case round=>
  obtain⟨m,sG,rfl,D⟩:=hrel;have bI:m<bs.length:=Nw;obtain⟨b,lf⟩:∃ b,bs[m]? = some b:=⟨_,List.getElem?_eq_getElem bI⟩;obtain⟨gX,cap',hO,_,⟨bZ,dx,_⟩,_⟩:=atC (N9 hrow D) lf;have z:=kk (∀{G}(h:G:=by
  have gC:wr.cell? (Nv g (m * 6))=some (ND b.name):=bZ 0 _ rfl;have eq:=bZ 1 _ rfl;have hp:=bZ 2 _ rfl;have jG:=bZ 3 _ rfl;have lc:=bZ 4 _ rfl;have nE:=bZ 5 _ rfl;have cq:wr.cell? (Nv bE 0)=some (ND s):=(cell_below D (a:=(Nv bE 0)) tt.out).trans dN.out;have ah:=(arL s b bE wr cq);exact axT),G);exact ae3),G);exact axU
def zC:List NP:=[OG,Nr 0,Nr 0,OG,Nr 0,NI false]
theorem ae6 (w:Ny)(g o cap:Nat)(ai:∀ j,j<6->(w.cell? (Nv g (o+j))).isSome=true)(aG:∀ j,w.frozen? (Nv g j)=false) :
  (Builtin.clear_ #[196] 0 #[.slice (some (Nv g o)) 1 cap]).run prog w=.ok (.tuple #[]) (w.setCells g o zC):=by
 have bF:=run_storeCells_cells (P:=prog) g o zC 0 w (by simpa[zC] using ai) (by simpa using fun j _=>aG (o+j)) (by intro v hO;simp[zC] at hO;rcases hO with rfl|rfl|rfl|rfl|rfl|rfl <;> rfl)
 simp only[Nat.add_zero] at bF;have ap:∀ w,(zeroValue 262).run prog w=.ok (.agg #[OG,Nr 0,Nr 0,OG,Nr 0,NI false]) w:=fun w=>by
  obtain⟨mw,d2,dH,b6,cq⟩:=info_parts aiB;simp[zeroValue,typeInfo,d2,dH]
 have nf:(Builtin.zeroCells (Value.agg #[OG,Nr 0,Nr 0,OG,Nr 0,NI false]).cells 1).toList=zC:=by kernel_rfl
 simp[Builtin.clear_,run_underlying underlying196,ap,nf,bF]
theorem ajY {w:Ny}{g cap H n o:Nat}{xs:List NP}(h:w.ownsRow H 262 6 (.slice (some (Nv g 0)) n cap) n xs)(j2:o<=n):(w.setCells g (o * 6) zC).ownsRow H 262 6 (.slice (some (Nv g 0)) o cap) o (xs.take (o * 6))/\w.grownBy (w.setCells g (o * 6) zC) (some g):=by
 obtain⟨bQ,aY⟩:=h.stored (o * 6) (OG);obtain⟨b5,aX⟩:=bQ.stored (o * 6+1) (Nr 0);obtain⟨d',cu⟩:=b5.stored (o * 6+2) (Nr 0);obtain⟨je,lU⟩:=d'.stored (o * 6+3) (OG);obtain⟨rD,sS⟩:=je.stored (o * 6+4) (Nr 0);obtain⟨yg,BB⟩:=rD.stored (o * 6+5) (NI false);have ac:(((((((xs).set (o * 6) (OG)).set (o * 6+1) (Nr 0)).set (o * 6+2) (Nr 0)).set (o * 6+3) (OG)).set (o * 6+4) (Nr 0)).set (o * 6+5) (NI false)).take (o * 6)=xs.take (o * 6):=by
  rw[List.take_set_of_le Nw,List.take_set_of_le Nw,List.take_set_of_le Nw,List.take_set_of_le Nw,List.take_set_of_le Nw,List.take_set_of_le Nw]
 have ag:=NS (NS (NS (NS (NS (aY) aX) cu) lU) sS) BB;have U:=aaK yg j2;rw[ac] at U;exact⟨U,ag⟩
theorem aty (g cap H:Nat)(bs:List Pr)(s:NR)(bE:Nat)(w:Ny)(hrow:w.ownsRow H 207 5 (.slice (some (Nv g 0)) bs.length cap) bs.length (bs.flatMap Pr.h))(aV:bs.length<=1000000000)(k:Nat)(E:fP s bs=some k)(aO:∀ j b,k<j->bs[j]? = some b->YS s b.name=false)(aJ:w.heap[bE]? = some (Og #[ND s] 9)) :
  NK 334 #[.slice (some (Nv g 0)) bs.length cap,.func (.func 335) #[] #[NM bE 0]] w fun e w'=>e=NU (.slice (some (Nv g 0)) ((bs.eraseIdx k).length:Nat) cap)/\w.grownBy w' (some g)/\w'.ownsRow H 207 5 (.slice (some (Nv g 0)) (bs.eraseIdx k).length cap) (bs.eraseIdx k).length ((bs.eraseIdx k).flatMap Pr.h):=by
 have nf:w.cell? (Nv bE 0)=some (ND s):=by simp[World.cell?,aJ]
 have ah:=(axS g cap H bs s bE w hrow Nw k E nf);have z:=kk (∀{G}(h:G:=by
 go_enter func334,ntmps334;have z:=kk (∀{G}(h:G:=by
 go_loopw [5,6] (fun i j wr=>∃ m:Nat,k<=m/\m+1<=N/\i=Nr m/\j=Nr ((m+1:Nat):Int)/\w.grownBy wr (some g)/\wr.ownsRow H 207 5 (.slice (some (Nv g 0)) N cap) N ((Lm bs k m).flatMap Pr.h)) (fun _ j _=>N+1 - (intOf j).toNat)
 case atStart=>exact⟨k,OH,cJ,rfl,by go_num,hT,by rw[ae1 (by rw[<-dE.out];exact cJ)];exact qW⟩
 case round=>
  have z:=kk (∀{G}(h:G:=by
  by_cases aQ:m+1<N
  ·have z:=kk (∀{G}(h:G:=by
   obtain⟨gX,cap',hO,_,⟨bZ,_,kg⟩,_⟩:=atP hown2 Am;have z:=kk (∀{G}(h:G:=by
   have aG:=pg.out (m+1) b Nw lf;have gC:wr.cell? (Nv g ((m+1) * 5))=some (ND b.name):=bZ 0 _ rfl;have eq:wr.cell? (Nv g ((m+1) * 5+1))=some (Nr b.v.k):=bZ 1 _ rfl;have hp:wr.cell? (Nv g ((m+1) * 5+2))=some (Nr b.v.n):=bZ 2 _ rfl;have jG:wr.cell? (Nv g ((m+1) * 5+3))=some (ND b.v.s):=bZ 3 _ rfl;have lc:wr.cell? (Nv g ((m+1) * 5+4))=some (NI b.fixed):=bZ 4 _ rfl;have nf:(wr.alloc (.cells #[ND b.name,Nr b.v.k,Nr b.v.n,ND b.v.s,NI b.fixed] 207)).cell? (Nv bE 0)=some (ND s):=by
    rw[World.cell?_alloc_past _ _ _ (lt_of_block jO)];simp[World.cell?,jO]
   have d3:=(arK s b bE _ nf);rw[show (b.name.toList==s.toList)=false from aG] at d3;have yt:=hide lf;have oa:=hide il;have hget:∀ j,j<5->∃ u,wr.cell? (Nv g (m * 5+j))=some u:=fun j aT=>by
    have:=hown.cellAt (m * 5+j) Nw;rw[this];obtain⟨x,ac⟩:∃ x,(Lm bs k m)[m]? = some x:=⟨_,List.getElem?_eq_getElem Nw⟩;rw[VZ (s:=5) (fun _=>rfl) _ m j aT,ac];exact⟨_,List.getElem?_eq_getElem (by simpa[Pr.h] using aT)⟩
   have z:=kk (∀{G}(h:G:=by
   have z:=kk (∀{G}(h:G:=by
   have fw:Below (wr.heap.size+1) (wr.alloc (.cells #[ND b.name,Nr b.v.k,Nr b.v.n,ND b.v.s,NI b.fixed] 207)) ao:=bm.mono Oq;have hblk:ao.heap[wr.heap.size]? = some (Og #[ND b.name,Nr b.v.k,Nr b.v.n,ND b.v.s,NI b.fixed] 207):=(fw.block _ (Nat.lt_succ_self _)).trans (heap_alloc_new wr _);have z:=kk (∀{G}(h:G:=by
   have rC:ao.cell? (Nv wr.heap.size 4)=some (NI b.fixed):=by simp[World.cell?,hblk]
   have z:=kk (∀{G}(h:G:=by
   have Ik:∀ j,ao.frozen? (Nv g j)=false:=fun j=>by
    rw[World.frozen?_of_block (w:=wr.alloc (.cells #[ND b.name,Nr b.v.k,Nr b.v.n,ND b.v.s,NI b.fixed] 207)) (a:=(Nv g j)) (fw.block g Nw),World.frozen?_alloc_old _ _ _ (by show g≠_;omega)]
    exact j'.out j
   have aW:ao.cell? (Nv g (m * 5))=some hz:=(c7 _).trans ER;have p1:ao.cell? (Nv g (m * 5+1))=some g4:=(c7 _).trans bG;have cr:ao.cell? (Nv g (m * 5+2))=some gR:=(c7 _).trans iU;have cL:ao.cell? (Nv g (m * 5+3))=some j7:=(c7 _).trans wG;have kt:ao.cell? (Nv g (m * 5+4))=some um:=(c7 _).trans ES;have In:g≠wr.heap.size:=Nw;have Ii:g<ao.heap.size:=Nw
   have hown3:ao.ownsRow H 207 5 (.slice (some (Nv g 0)) N cap) N ((Lm bs k m).flatMap Pr.h):=hown.kept (NS (World.grownBy_alloc _ _ none) ⟨bm.os,bm.tape,bm.output,bm.size,fun j aT _=>bm.block j aT⟩) (by simp[Value.ownBlock]);obtain⟨bQ,aY⟩:=hown3.stored (m * 5) (ND b.name);obtain⟨b5,aX⟩:=bQ.stored (m * 5+1) (Nr b.v.k);obtain⟨d',cu⟩:=b5.stored (m * 5+2) (Nr b.v.n);obtain⟨je,lU⟩:=d'.stored (m * 5+3) (ND b.v.s);obtain⟨rD,sS⟩:=je.stored (m * 5+4) (NI b.fixed)
   rw[ae2 (Lm bs k m) m b (by rw[oa.out];omega),aiz rj (by rw[<-dE.out];exact aQ) yt.out] at rD
   have yR:w.grownBy _ (some g):=NS db (NS (World.grownBy_alloc wr (.cells #[ND b.name,Nr b.v.k,Nr b.v.n,ND b.v.s,NI b.fixed] 207) (some g)) (NS ⟨bm.os,bm.tape,bm.output,bm.size,fun j aT _=>bm.block j aT⟩ (NS (NS (NS (NS (aY) aX) cu) lU) sS)));clear hblk c7;go_wp2_with fail
   go_roundw
   case rel=>exact⟨m+1,by omega,by omega,by go_num,by go_num,yR,rD⟩
   case measure=>simp[intOf];omega),G);exact axW),G);exact axX),G);exact axY),G);exact axZ),G);exact ae3),G);exact ax0
  ·have z:=kk (∀{G}(h:G:=by
   have t8:((Lm bs k m).flatMap Pr.h).length=(m+1) * 5:=by rw[alY (s:=5) (fun _=>rfl),il]
   have rN:Hid (∀ j,j<5->(wr.cell? (Nv g (m * 5+j))).isSome=true):=fun j aT=>by
    have:=hown.cellAt (m * 5+j) Nw;rw[this,List.getElem?_eq_getElem (by rw[t8];omega)]
    rfl
   have jx:Hid (∀ j,wr.frozen? (Nv g j)=false):=hown.frozenAt;have aJ:=ajX (o:=m) hown Nw;rw[adh (s:=5) (fun _=>rfl),alX hkl' (by rw[<-dE.out])] at aJ;have u':=hide aJ;clear jO aJ t8 il;go_wp2_with fail;rw[ae4 wr g (m * 5) _ rN.out jx.out];go_simp;go_wp2_with fail;go_ret;exact⟨rfl,NS db u'.out.2,u'.out.1⟩),G);exact ax1),G);exact ax2),G);exact ax3),G);exact ax4
theorem atz (g cap H:Nat)(bs:List Ce)(s:NR)(bE:Nat)(w:Ny)(hrow:w.ownsRow H 262 6 (.slice (some (Nv g 0)) bs.length cap) bs.length (bs.flatMap Ce.h))(aV:bs.length<=1000000000)(k:Nat)(E:fC s bs=some k)(aO:∀ j b,k<j->bs[j]? = some b->YS s b.name=false)(aJ:w.heap[bE]? = some (Og #[ND s] 9)) :
  NK 316 #[.slice (some (Nv g 0)) bs.length cap,.func (.func 317) #[] #[NM bE 0]] w fun e w'=>e=NU (.slice (some (Nv g 0)) ((bs.eraseIdx k).length:Nat) cap)/\w.grownBy w' (some g)/\w'.ownsRow H 262 6 (.slice (some (Nv g 0)) (bs.eraseIdx k).length cap) (bs.eraseIdx k).length ((bs.eraseIdx k).flatMap Ce.h):=by
 have nf:w.cell? (Nv bE 0)=some (ND s):=by simp[World.cell?,aJ]
 have ah:=(axV g cap H bs s bE w hrow Nw k E nf);have z:=kk (∀{G}(h:G:=by
 go_enter func316,ntmps316;have z:=kk (∀{G}(h:G:=by
 go_loopw [5,6] (fun i j wr=>∃ m:Nat,k<=m/\m+1<=N/\i=Nr m/\j=Nr ((m+1:Nat):Int)/\w.grownBy wr (some g)/\wr.ownsRow H 262 6 (.slice (some (Nv g 0)) N cap) N ((Lm bs k m).flatMap Ce.h)) (fun _ j _=>N+1 - (intOf j).toNat)
 case atStart=>exact⟨k,OH,cJ,rfl,by go_num,hT,by rw[ae1 (by rw[<-dE.out];exact cJ)];exact qW⟩
 case round=>
  have z:=kk (∀{G}(h:G:=by
  by_cases aQ:m+1<N
  ·have z:=kk (∀{G}(h:G:=by
   obtain⟨gX,cap',hO,_,⟨bZ,_,kg⟩,_⟩:=atC hown2 Am;have z:=kk (∀{G}(h:G:=by
   have aG:=pg.out (m+1) b Nw lf;have gC:wr.cell? (Nv g ((m+1) * 6))=some (ND b.name):=bZ 0 _ rfl;have eq:wr.cell? (Nv g ((m+1) * 6+1))=some (Nr b.v.k):=bZ 1 _ rfl;have hp:wr.cell? (Nv g ((m+1) * 6+2))=some (Nr b.v.n):=bZ 2 _ rfl;have jG:wr.cell? (Nv g ((m+1) * 6+3))=some (ND b.v.s):=bZ 3 _ rfl;have lc:wr.cell? (Nv g ((m+1) * 6+4))=some (Nr b.kind):=bZ 4 _ rfl;have nE:wr.cell? (Nv g ((m+1) * 6+5))=some (NI b.ready):=bZ 5 _ rfl
   have nf:(wr.alloc (.cells #[ND b.name,Nr b.v.k,Nr b.v.n,ND b.v.s,Nr b.kind,NI b.ready] 262)).cell? (Nv bE 0)=some (ND s):=by
    rw[World.cell?_alloc_past _ _ _ (lt_of_block jO)];simp[World.cell?,jO]
   have d3:=(arL s b bE _ nf);rw[show (b.name.toList==s.toList)=false from aG] at d3;have yt:=hide lf;have oa:=hide il;have hget:∀ j,j<6->∃ u,wr.cell? (Nv g (m * 6+j))=some u:=fun j aT=>by
    have:=hown.cellAt (m * 6+j) Nw;rw[this];obtain⟨x,ac⟩:∃ x,(Lm bs k m)[m]? = some x:=⟨_,List.getElem?_eq_getElem Nw⟩;rw[VZ (s:=6) (fun _=>rfl) _ m j aT,ac];exact⟨_,List.getElem?_eq_getElem (by simpa[Ce.h] using aT)⟩
   have z:=kk (∀{G}(h:G:=by
   obtain⟨wN,Bx⟩:=hget 5 NH;have z:=kk (∀{G}(h:G:=by
   have fw:Below (wr.heap.size+1) (wr.alloc (.cells #[ND b.name,Nr b.v.k,Nr b.v.n,ND b.v.s,Nr b.kind,NI b.ready] 262)) ao:=bm.mono Oq;have hblk:ao.heap[wr.heap.size]? = some (Og #[ND b.name,Nr b.v.k,Nr b.v.n,ND b.v.s,Nr b.kind,NI b.ready] 262):=(fw.block _ (Nat.lt_succ_self _)).trans (heap_alloc_new wr _);have z:=kk (∀{G}(h:G:=by
   have rC:ao.cell? (Nv wr.heap.size 4)=some (Nr b.kind):=by simp[World.cell?,hblk]
   have o3:ao.cell? (Nv wr.heap.size 5)=some (NI b.ready):=by simp[World.cell?,hblk]
   have z:=kk (∀{G}(h:G:=by
   have Ik:∀ j,ao.frozen? (Nv g j)=false:=fun j=>by
    rw[World.frozen?_of_block (w:=wr.alloc (.cells #[ND b.name,Nr b.v.k,Nr b.v.n,ND b.v.s,Nr b.kind,NI b.ready] 262)) (a:=(Nv g j)) (fw.block g Nw),World.frozen?_alloc_old _ _ _ (by show g≠_;omega)]
    exact j'.out j
   have aW:ao.cell? (Nv g (m * 6))=some hz:=(c7 _).trans ER;have p1:ao.cell? (Nv g (m * 6+1))=some g4:=(c7 _).trans bG;have cr:ao.cell? (Nv g (m * 6+2))=some gR:=(c7 _).trans iU;have cL:ao.cell? (Nv g (m * 6+3))=some j7:=(c7 _).trans wG;have kt:ao.cell? (Nv g (m * 6+4))=some um:=(c7 _).trans ES;have MX:ao.cell? (Nv g (m * 6+5))=some wN:=(c7 _).trans Bx;have In:g≠wr.heap.size:=Nw;have Ii:g<ao.heap.size:=Nw
   have hown3:ao.ownsRow H 262 6 (.slice (some (Nv g 0)) N cap) N ((Lm bs k m).flatMap Ce.h):=hown.kept (NS (World.grownBy_alloc _ _ none) ⟨bm.os,bm.tape,bm.output,bm.size,fun j aT _=>bm.block j aT⟩) (by simp[Value.ownBlock]);obtain⟨bQ,aY⟩:=hown3.stored (m * 6) (ND b.name);obtain⟨b5,aX⟩:=bQ.stored (m * 6+1) (Nr b.v.k);obtain⟨d',cu⟩:=b5.stored (m * 6+2) (Nr b.v.n);obtain⟨je,lU⟩:=d'.stored (m * 6+3) (ND b.v.s);obtain⟨rD,sS⟩:=je.stored (m * 6+4) (Nr b.kind);obtain⟨yg,BB⟩:=rD.stored (m * 6+5) (NI b.ready)
   rw[ae5 (Lm bs k m) m b (by rw[oa.out];omega),aiz rj (by rw[<-dE.out];exact aQ) yt.out] at yg
   have yR:w.grownBy _ (some g):=NS db (NS (World.grownBy_alloc wr (.cells #[ND b.name,Nr b.v.k,Nr b.v.n,ND b.v.s,Nr b.kind,NI b.ready] 262) (some g)) (NS ⟨bm.os,bm.tape,bm.output,bm.size,fun j aT _=>bm.block j aT⟩ (NS (NS (NS (NS (NS (aY) aX) cu) lU) sS) BB)));clear hblk c7;go_wp2_with fail
   go_roundw
   case rel=>exact⟨m+1,by omega,by omega,by go_num,by go_num,yR,yg⟩
   case measure=>simp[intOf];omega),G);exact axW),G);exact axX),G);exact axY),G);exact axZ),G);exact ae3),G);exact ax0
  ·have z:=kk (∀{G}(h:G:=by
   have t8:((Lm bs k m).flatMap Ce.h).length=(m+1) * 6:=by rw[alY (s:=6) (fun _=>rfl),il]
   have rN:Hid (∀ j,j<6->(wr.cell? (Nv g (m * 6+j))).isSome=true):=fun j aT=>by
    have:=hown.cellAt (m * 6+j) Nw;rw[this,List.getElem?_eq_getElem (by rw[t8];omega)]
    rfl
   have jx:Hid (∀ j,wr.frozen? (Nv g j)=false):=hown.frozenAt;have aJ:=ajY (o:=m) hown Nw;rw[adh (s:=6) (fun _=>rfl),alX hkl' (by rw[<-dE.out])] at aJ;have u':=hide aJ;clear jO aJ t8 il;go_wp2_with fail;rw[ae6 wr g (m * 6) _ rN.out jx.out];go_simp;go_wp2_with fail;go_ret;exact⟨rfl,NS db u'.out.2,u'.out.1⟩),G);exact ax1),G);exact ax2),G);exact ax3),G);exact ax4
theorem ae7 {w W:Ny}{nm:NR}(D:Below (w.heap.size+1) (w.alloc (.cells #[ND nm] 9)) W):W.heap[w.heap.size]? = some (Og #[ND nm] 9):=(D.block _ (Nat.lt_succ_self _)).trans (heap_alloc_new w _)
section
variable (h:HP H R w M az aB os b7) (ae:M.Small K) (A:K<=1000000000) (o:Int) (nm:NR)
include h ae A o nm
theorem atA (al:M.prop o nm=none) :
  NK 315 #[NM H 0,Nr o,ND nm] w fun e w'=>e=NU (NI true)/\NJ w w':=by
 have z:=kk (∀{G}(h:G:=by
 obtain⟨q,r,dK,ez,U⟩:=alZ (h.later eW) ae A o nm;have d6:r=none:=by
  rcases U with ⟨h,_⟩|⟨_,_,_,_,_,_,_,_,_,_,ag,_⟩
  ·exact h
  ·rw[al] at ag;cases ag
 subst d6;clear h U al;go_enter func315,ntmps315;exact ax5),G);exact apr
theorem ajZ {p:Pr}(al:M.prop o nm=some p)(vH:p.fixed=true) :
  NK 315 #[NM H 0,Nr o,ND nm] w fun e w'=>e=NU (NI false)/\NJ w w':=by
 have z:=kk (∀{G}(h:G:=by
 obtain⟨q,r,dK,ez,U⟩:=alZ (h.later eW) ae A o nm
 rcases U with ⟨_,ag⟩|⟨i,x,k,c,g,cap,rfl,_,_,_,ag,rfl,_,a6⟩
 ·rw[al] at ag;cases ag
 rw[al] at ag;cases ag;have fs:=hide a6;clear h al a6;go_enter func315,ntmps315;go_wp2_with fail;refine cm dK ?_;rintro e w' ⟨rfl,rfl⟩;go_wp2_with fail;refine cm ez ?_;rintro e w1 ⟨rfl,D⟩;obtain⟨bZ,dx,kg⟩:=fs.out w1 D;have lc:=bZ 4 _ rfl;rw[vH] at lc;have bM:=(((Below.refl _ w).alloc OH _).trans (D.mono Oq));clear bZ;go_wp2_with fail;go_ret;exact⟨rfl,bM⟩),G);exact apr
end
def uniq {α:Type}(f:α->NR)(l:List α):Prop:=∀ (i j:Nat) a b,l[i]? = some a->l[j]? = some b->(f a).toList=(f b).toList->i=j
theorem aaL {α:Type}{f:α->NR}{l:List α}(h:uniq f l){nm:NR}{k:Nat}(E:l.findIdx? (fun a=>YS nm (f a))=some k):∀ j b,k<j->l[j]? = some b->YS nm (f b)=false:=by
 intro j b aT D;obtain⟨cJ,iQ,_⟩:=List.findIdx?_eq_some_iff_getElem.1 E
 by_cases ag:YS nm (f b)=true
 ·have av:(f b).toList=nm.toList:=by simpa[YS] using ag
  have bC:(f l[k]).toList=nm.toList:=by simpa[YS] using iQ
  have:=h k j l[k] b (List.getElem?_eq_getElem cJ) D (bC.trans av.symm);omega
 ·simpa using ag
section
variable (h:HP H R w M az aB os b7) (ae:M.Small K) (A:K<=1000000000)
include h ae A
theorem atB (i:Nat)(x:Ob)(ay:M.objs[i]? = some x)(nm:NR)(k:Nat)(c:Pr)(E:fP nm x.ps=some k)(ai:x.ps[k]? = some c)(vH:c.fixed=false)(aO:uniq Pr.name x.ps) :
  NK 315 #[NM H 0,Nr (i:Int),ND nm] w fun e w'=>e=NU (NI true)/\(∃ pQ,HP H R w' (M.Q5 i ⟨x.code,x.ps.eraseIdx k⟩) az aB pQ b7)/\OB Th H w w':=by
 have z:=kk (∀{G}(h:G:=by
 obtain⟨g,cap,v,bC,aQ,ap,dP,hrow,hg,aZ,ml,_⟩:=fk.ob.at_ (i:=i) (e:=x.h) (by simp[ay]);have ah:=(aaM g cap _ i aQ el);rw[<-bC] at ah;have hrow':el.ownsRow H 207 5 v x.ps.length (x.ps.flatMap Pr.h):=hrow;have mu:=ae.ps x (List.mem_of_getElem? ay);have d3:=(adi g (i * 2) v x.ps H nm el (dP 1 v rfl) hrow' Nw);obtain⟨iz,mO,rfl,cJ,_,_⟩:=atP hrow' ai;rw[E] at d3;simp only[ZM] at d3;have bA:=hide ap;have f1:=hide ay;have fL:=hide ai;have jV:=hide bC;have f2:=hide E;have zm:=hide (aaL (f:=Pr.name) aO E)
 have k3:=hide (dP 1 _ rfl);have gU:=hide hg;have di:=hide ml;have HLEN:=hide mu;clear dP E ay ai h ap bC mu hg ml;go_enter func315,ntmps315;have z:=kk (∀{G}(h:G:=by
 obtain⟨gX,cap',hO,_,⟨bZ,dx,kg⟩,_⟩:=atP (N9 hrow' D) fL.out;have z:=kk (∀{G}(h:G:=by
 have z:=kk (∀{G}(h:G:=by
 have dw:=(aty iz mO H x.ps nm w.heap.size w1 (N9 hrow' D) (by have:=HLEN.out;omega) k f2.out zm.out jO)
 have iE:g<w1.heap.size:=Nat.lt_of_lt_of_le gU.out D.size;have f7:w1.cell? (Nv g (i * 2+1))=some (.slice (some (Nv iz 0)) x.ps.length mO):=(cell_below D (a:=(Nv g (i * 2+1))) gU.out).trans k3.out;have hfz1:w1.frozen? (Nv g (i * 2+1))=false:=(World.frozen?_of_block (w:=el) (a:=(Nv g (i * 2+1))) (D.block g gU.out)).trans (di.out _);clear bZ jO kg;go_wp2_with fail;refine cm dw ?_;rintro e w2 ⟨rfl,db,hown⟩;have aJ:=gr.arN (x':=⟨x.code,x.ps.eraseIdx k⟩) f1.out bA.out jV.out db hown (fun q ag=>.inl ag) rfl;have dN:=hide aJ
 have kr:w2.cell? (Nv g (i * 2+1))=some (.slice (some (Nv iz 0)) x.ps.length mO)/\w2.frozen? (Nv g (i * 2+1))=false:=by
  have ci:some g≠some iz:=fun e=>by
   obtain⟨_,_,g1⟩:=gr.ob.nes bA.out;exact(g1 g e.symm).2.2.1 (by rw[jV.out];rfl)
  have hbk:=db.block g iE ci;exact⟨(World.cell?_of_block (w:=w1) (a:=(Nv g (i * 2+1))) hbk).trans f7,(World.frozen?_of_block (w:=w1) (a:=(Nv g (i * 2+1))) hbk).trans hfz1⟩
 exact ax6),G);exact ax7),G);exact ae3),G);exact atD),G);exact ax8
theorem aps (i:Nat)(x:Ro)(ay:M.NQ[i]? = some x)(nm:NR)(k:Nat)(c:Ce)(E:fC nm x.cs=some k)(ai:x.cs[k]? = some c)(vH:c.kind=4)(aO:uniq Ce.name x.cs) :
  NK 297 #[NM H 0,Nr (i:Int),ND nm] w fun e w'=>e=NU (NI true)/\(∃ mB,HP H R w' (M.Qw i ⟨x.outer,x.object,x.cs.eraseIdx k⟩) az aB os mB)/\OB Th H w w':=by
 have z:=kk (∀{G}(h:G:=by
 obtain⟨g,cap,v,bC,aQ,ap,dP,hrow,hg,aZ,ml,_⟩:=fk.ro.at_ (i:=i) (e:=x.h) (by simp[ay]);have ah:=(Y7 g cap _ i aQ el);rw[<-bC] at ah;have hrow':el.ownsRow H 262 6 v x.cs.length (x.cs.flatMap Ce.h):=hrow;have mu:=ae.cs x (List.mem_of_getElem? ay);have d3:=(adk g (i * 3) v x.cs H nm el (dP 2 v rfl) hrow' Nw);obtain⟨iz,mO,rfl,cJ,_,_⟩:=atC hrow' ai;rw[E] at d3;simp only[ZM] at d3;have bA:=hide ap;have f1:=hide ay;have fL:=hide ai;have jV:=hide bC;have f2:=hide E;have zm:=hide (aaL (f:=Ce.name) aO E)
 have k3:=hide (dP 2 _ rfl);have gU:=hide hg;have di:=hide ml;have HLEN:=hide mu;clear dP E ay ai h ap bC mu hg ml;go_enter func297,ntmps297;have z:=kk (∀{G}(h:G:=by
 obtain⟨gX,cap',hO,_,⟨bZ,dx,kg⟩,_⟩:=atC (N9 hrow' D) fL.out;have z:=kk (∀{G}(h:G:=by
 have z:=kk (∀{G}(h:G:=by
 have dw:=(atz iz mO H x.cs nm w.heap.size w1 (N9 hrow' D) (by have:=HLEN.out;omega) k f2.out zm.out jO)
 have iE:g<w1.heap.size:=Nat.lt_of_lt_of_le gU.out D.size;have f7:w1.cell? (Nv g (i * 3+2))=some (.slice (some (Nv iz 0)) x.cs.length mO):=(cell_below D (a:=(Nv g (i * 3+2))) gU.out).trans k3.out;have hfz1:w1.frozen? (Nv g (i * 3+2))=false:=(World.frozen?_of_block (w:=el) (a:=(Nv g (i * 3+2))) (D.block g gU.out)).trans (di.out _);clear bZ jO kg;go_wp2_with fail;refine cm dw ?_;rintro e w2 ⟨rfl,db,hown⟩;have aJ:=gr.aiC (x':=⟨x.outer,x.object,x.cs.eraseIdx k⟩) f1.out bA.out jV.out db hown (fun q ag=>.inl ag) ⟨rfl,rfl⟩
 have dN:=hide aJ;have kr:w2.cell? (Nv g (i * 3+2))=some (.slice (some (Nv iz 0)) x.cs.length mO)/\w2.frozen? (Nv g (i * 3+2))=false:=by
  have ci:some g≠some iz:=fun e=>by
   obtain⟨_,_,g1⟩:=gr.ro.nes bA.out;exact(g1 g e.symm).2.2.1 (by rw[jV.out];rfl)
  have hbk:=db.block g iE ci;exact⟨(World.cell?_of_block (w:=w1) (a:=(Nv g (i * 3+2))) hbk).trans f7,(World.frozen?_of_block (w:=w1) (a:=(Nv g (i * 3+2))) hbk).trans hfz1⟩
 exact ax6),G);exact ax7),G);exact ae3),G);exact atD),G);exact ax8
theorem aj0 (o:Int)(nm:NR){p:Ce}(al:M.XM o nm=some p)(vH:p.kind≠4) :
  NK 297 #[NM H 0,Nr o,ND nm] w fun e w'=>e=NU (NI false)/\NJ w w':=by
 have z:=kk (∀{G}(h:G:=by
 obtain⟨q,r,dK,ez,U⟩:=XO (h.later eW) ae A o nm
 rcases U with ⟨_,ag⟩|⟨i,x,k,c,g,cap,rfl,_,_,_,ag,rfl,_,a6⟩
 ·rw[al] at ag;cases ag
 rw[al] at ag;cases ag;have fs:=hide a6;clear h al a6;go_enter func297,ntmps297;go_wp2_with fail;refine cm dK ?_;rintro e w' ⟨rfl,rfl⟩;go_wp2_with fail;refine cm ez ?_;rintro e w1 ⟨rfl,D⟩;obtain⟨bZ,dx,kg⟩:=fs.out w1 D;have lc:=bZ 4 _ rfl;have bM:=(((Below.refl _ w).alloc OH _).trans (D.mono Oq));clear bZ;go_wp2_with fail;go_ret;exact⟨rfl,bM⟩),G);exact apr
theorem aj1 (s:Int)(nm:NR)(al:M.XM s nm=none)(b:Bool)(oq:Mo)(cR:∀ W,NJ w W->NK 315 #[NM H 0,Nr (M.Ql s),ND nm] W fun e w'=>e=NU (NI b)/\OO H R w' oq/\OB Th H W w') :
  NK 297 #[NM H 0,Nr s,ND nm] w fun e w'=>e=NU (NI b)/\OO H R w' oq/\OB Th H w w':=by
 have z:=kk (∀{G}(h:G:=by
 obtain⟨q,r,dK,ez,U⟩:=XO (h.later eW) ae A s nm;have d6:r=none:=by
  rcases U with ⟨h,_⟩|⟨_,_,_,_,_,_,_,_,_,_,ag,_⟩
  ·exact h
  ·rw[al] at ag;cases ag
 subst d6;have z:=kk (∀{G}(h:G:=by
 rw[<-oP] at cR;have dk:=hide cR;clear h U al cR oP;go_enter func297,ntmps297;have z:=kk (∀{G}(h:G:=by
 have bM:=(((Below.refl _ w).alloc OH _).trans (D.mono Oq));have jO:w1.heap[w.heap.size]? = some (Og #[ND nm] 9):=ae7 (D.mono Oq);have dm:w1.cell? (Nv w.heap.size 0)=some (ND nm):=by simp[World.cell?,jO]
 have GZ:=hide jO;clear jO;go_wp2_with fail;refine wp_region_held (S:=fun W=>W.cell? (Nv w.heap.size 0)=some (ND nm)) OJ ?_;change wpAnyH _ _ _ _ _ _ _ _ (World.drew _);have eU:Hid (w1.drew.cell? (Nv w.heap.size 0)=some (ND nm)):=dm;refine wh 0 (NM H 0) eU.out ?_;refine wh 1 (NM H 0) eU.out ?_;refine wh 2 (Nr s) eU.out ?_;refine wg 4 (ND nm) rfl (Or.inl ⟨by kernel_rfl,fun W a6=>by go_simp⟩) eU.out ?_;refine WG 3 fun K A=>?_;go_simp;refine cm (dr.out _ bM.drew) ?_;rintro e ao ⟨rfl,rfl⟩;refine A.out _ _ eU.out (fun _=>?_);clear A K
 refine WG 5 fun K A=>?_;go_simp;refine cm (dk.out _ bM.drew) ?_;rintro e bB ⟨rfl,lO,h2⟩;have hR:=((OB.of bM.drew (Oi hl)).trans h2);have kb:Hid (bB.cell? (Nv w.heap.size 0)=some (ND nm)):=by
  have aU:=h2.rest _ _ 9 GZ.out NH;simp[Hid,World.cell?,aU]
 refine A.out _ _ kb.out (fun _=>?_);clear A K h2;refine wh 6 (NI b) kb.out ?_;refine wpAnyH_done OJ ?_ _;go_simp;go_wp2_with fail;go_ret;exact⟨rfl,lO,hR⟩),G);exact agX),G);exact atE),G);exact apr
end
theorem HP.aiD (h:HP H R w M az aB os b7)(c:Int){tv':NP}(db:w.grownBy w1 az.ownBlock)(hown:w1.ownsRow H 185 2 tv' (M.objs.length+1) (flat (M.objs.map Ob.h) os++[Nr c,PG])) :
  HP H R (w1.setCell (Nv H 0) tv') ⟨M.objs++[⟨c,[]⟩],M.NQ⟩ tv' aB (os++[PG]) b7/\OB Th H w (w1.setCell (Nv H 0) tv'):=by
 obtain⟨nh,dZ⟩:=h.ob.push (Oi (lt_of_block h.blk)) [Nr c] rfl db (by rw[List.length_map];exact hown)
 have b4:=dZ.rest H _ 84 h.blk NH;have dW:OB [84] H w1 (w1.setCell (Nv H 0) tv'):=OB.setCell (OB.of P8 (Oi (lt_of_block b4))) b4 Oq OH _;refine⟨⟨?_,?_,(h.ro.keep dZ NH NH).keep dW NH NH⟩,(dZ.mono NH OH).trans (dW.mono NH OH)⟩
 ·rw[heap_setCell_same w1 H 0 _ 84 _ b4];rfl
 ·have:=nh.keep dW NH NH;rw[List.map_append];exact this
theorem HP.aiE (h:HP H R w M az aB os b7)(a b:Int){tv':NP}(db:w.grownBy w1 aB.ownBlock)(hown:w1.ownsRow H 198 3 tv' (M.NQ.length+1) (flat (M.NQ.map Ro.h) b7++[Nr a,Nr b,PG])) :
  HP H R (w1.setCell (Nv H 1) tv') ⟨M.objs,M.NQ++[⟨a,b,[]⟩]⟩ az tv' os (b7++[PG])/\OB Th H w (w1.setCell (Nv H 1) tv'):=by
 obtain⟨nh,dZ⟩:=h.ro.push (Oi (lt_of_block h.blk)) [Nr a,Nr b] rfl db (by rw[List.length_map];exact hown)
 have b4:=dZ.rest H _ 84 h.blk NH;have dW:OB [84] H w1 (w1.setCell (Nv H 1) tv'):=OB.setCell (OB.of P8 (Oi (lt_of_block b4))) b4 Oq OH _;refine⟨⟨?_,(h.ob.keep dZ NH NH).keep dW NH NH,?_⟩,(dZ.mono NH OH).trans (dW.mono NH OH)⟩
 ·rw[heap_setCell_same w1 H 1 _ 84 _ b4];rfl
 ·have:=nh.keep dW NH NH;rw[List.map_append];exact this
theorem apt:(prog.info? 185).map (fun i=>(i.zero,i.size,i.bytes))=some (some (.agg #[Nr 0,PG]),2,32):=by kernel_rfl
theorem apu:(prog.info? 198).map (fun i=>(i.zero,i.size,i.bytes))=some (some (.agg #[Nr 0,Nr 0,PG]),3,40):=by kernel_rfl
theorem agY (w:Ny)(H:Nat)(fk:w.heap.size=H)(a:Int)(j:Nat)(u:NP)(h:([Nr a,PG]:List NP)[j]? = some u) :
  (w.alloc (.cells #[Nr a,PG] 185)).cell? (Addr.add (Nv H 0) j)=some u:=by
 subst fk
 match j,h with
 | 0,h=>simp at h;subst h;simp[Addr.add]
 | 1,h=>simp at h;subst h;simp[Addr.add]
 | k+2,h=>simp at h
theorem al0 (a:Int):∀ u ∈ ([Nr a,PG]:List NP),u.oneCell'=true:=by
 intro u aO;simp at aO
 rcases aO with rfl|rfl <;> rfl
theorem V3 (w:Ny)(H:Nat)(fk:w.heap.size=H)(a b:Int)(v:NP)(j:Nat)(u:NP)(h:([Nr a,Nr b,v]:List NP)[j]? = some u) :
  (w.alloc (.cells #[Nr a,Nr b,v] 198)).cell? (Addr.add (Nv H 0) j)=some u:=by
 subst fk
 match j,h with
 | 0,h=>simp at h;subst h;simp[Addr.add]
 | 1,h=>simp at h;subst h;simp[Addr.add]
 | 2,h=>simp at h;subst h;simp[Addr.add]
 | k+3,h=>simp at h
theorem Yv (a b:Int):∀ u ∈ ([Nr a,Nr b,PG]:List NP),u.oneCell'=true:=by
 intro u aO;simp at aO
 rcases aO with rfl|rfl|rfl <;> rfl
theorem aj2 (h:HP H R w M az aB os b7)(ae:M.Small K)(A:K<=1000000000)(c:Int) :
  NK 49 #[NM H 0,Nr c] w fun e w'=>e=NU (Nr M.objs.length)/\OO H R w' ⟨M.objs++[⟨c,[]⟩],M.NQ⟩/\OB Th H w w':=by
 obtain⟨h0,h1,aG,hr,zS⟩:=h.c;have hl:=ae.o;have hrow:w.ownsRow H 185 2 az M.objs.length (flat (M.objs.map Ob.h) os):=by have:=h.ob.row;rwa [List.length_map] at this
 obtain⟨m,hU⟩:=xH M.objs.length;rw[<-hU.out] at hrow hl ⊢;obtain⟨mw,d2,dH,b6,cq⟩:=info_parts apt;go_enter func49,ntmps49
 go_wp2_with (at_builtin;refine wpList_append_lies _ rfl _ _ 76 rfl H 185 mw _ 2 32 underlying76 d2 dH b6 cq rfl NH _ _ _ rfl (hrow.alloc _) (Nv w.heap.size 0) 1 1 [Nr c,PG] rfl rfl (agY w _ rfl c) (al0 c) NH (by unfold maxLen;omega) Nw Qa (w.heap.size+1) Oq ?_)
 intro hG hD ao hown3 eQ c7 _;have db:w.grownBy ao az.ownBlock:=NS (World.grownBy_alloc _ _ _) eQ;have ci:az.ownBlock≠some H:=fun e=>by
  obtain⟨cc,bZ⟩:=OZ hrow e;exact PW bZ h.blk NH rfl
 have bm:ao.heap[H]? = some (.cells (az::aB::R).toArray 84 (0,0)):=by rw[db.block H zS (fun e=>ci e.symm)];exact h.blk
 have ce:ao.cell? (Nv H 0)=some az:=by simp[World.cell?,bm]
 have JB:ao.frozen? (Nv H 0)=false:=by simp[World.frozen?,bm]
 have Lr:H<ao.heap.size:=lt_of_block bm;have dN:=hide (h.aiD c (tv':=.slice (some (Nv hG 0)) (m+1) hD) db (by rw[<-hU.out];exact hown3))
 clear ci bm c7 h0 h1 aG hr;go_wp2_with fail;go_ret;exact⟨by simp,⟨_,_,_,_,dN.out.1⟩,dN.out.2⟩
theorem ax9 (h:HP H R w M az aB os b7)(i:Nat)(x:Ob)(ay:M.objs[i]? = some x):∃ a:Addr,NK 126 #[az,Nr (i:Int)] w fun e w'=>e=NU (.pointer (some a))/\w'=w:=by
 obtain⟨g,cap,v,bC,aQ,ap,ai,hrow,hg,aZ,aG,_⟩:=h.ob.at_ (i:=i) (e:=x.h) (by simp[ay]);have ah:=aaM g cap _ i aQ w;rw[<-bC] at ah;exact⟨_,ah⟩
section
variable (h:HP H R w M az aB os b7) (ae:M.Small K) (A:K<=1000000000)
include h ae A
theorem al1 :
  NK 105 #[NM H 0,Nr (-1),Nr (-1)] w fun e w'=>e=NU (Nr (M.NQ.length:Int))/\OO H R w' ⟨M.objs,M.NQ++[⟨(-1),(-1),[]⟩]⟩/\OB Th H w w':=by
 have z:=kk (∀{G}(h:G:=by
 have fw:NJ w (w.alloc (.cells #[Nr (-1),Nr (-1),PG] 198)):=OM;have ah:=(V4 aB _ (Pv h.ro.row) (-1) (.inl NH) (w.alloc (.cells #[Nr (-1),Nr (-1),PG] 198)));have d3:=(Xx az _ (Pv h.ob.row) (-1) (.inl NH) (w.alloc (.cells #[Nr (-1),Nr (-1),PG] 198)));go_enter func105,ntmps105;go_wp2_with fail;refine cm ah ?_;rintro e w1 ⟨rfl,hw⟩;rw[hw];clear hw;go_wp2_with fail;refine cm d3 ?_;have z:=kk (∀{G}(h:G:=by
 obtain⟨el,sv⟩:=xE (w.alloc (.cells #[Nr (-1),Nr (-1),PG] 198));have z:=kk (∀{G}(h:G:=by
 refine wr2 4 5 (fun K A=>?ca) fun K A=>?cb
 case' ca=>
  go_simp;refine A _ _ ?_;clear A K;refine P6 5 fun K A=>?_;go_simp;refine A _ _ ?_;clear A K;refine P6 6 fun K A=>?_;go_simp;refine A _ _ ?_;clear A K
 case' cb=>
  go_simp;refine A _ _ ?_;clear A K;refine wr2 4 6 (fun K A=>?cc) fun K A=>?cd
 case' cc=>
  go_simp;refine A _ _ ?_;clear A K;refine P6 6 fun K A=>?_;go_simp;refine A _ _ ?_;clear A K
 case' cd=>
  go_simp;refine A _ _ ?_;clear A K;refine P6 4 fun K A=>?_;go_simp;refine A _ _ ?_;clear A K
 all_goals
  refine P6 7 fun K A=>?_;refine step_append_lies _ rfl _ _ 77 rfl H 198 mw _ 3 40 underlying77 d2 dH b6 cq rfl NH _ _ _ rfl (hrow.drew.alloc _) (Nv el.heap.size 0) 1 1 [Nr (-1),Nr (-1),PG] rfl rfl (V3 _ _ rfl _ _ _) (Yv _ _) NH (by have:=HLEN.out;unfold maxLen;omega) (by have:=HLEN.out;omega) Qa (el.heap.size+1) Oq ?_
  intro hG hD ao hown3 eQ c7 _;refine A _ _ ?_;clear A K;have db:el.grownBy ao aB.ownBlock:=NS (NS (b:=el.drew) ⟨rfl,rfl,rfl,OH,fun _ _ _=>rfl⟩ (World.grownBy_alloc _ _ _)) eQ;have dN:=hide (gr.aiE (-1) (-1) (tv':=.slice (some (Nv hG 0)) (M.NQ.length+1) hD) db hown3);have kr:ao.cell? (Nv H 1)=some aB/\ao.frozen? (Nv H 1)=false:=by
   have ci:some H≠aB.ownBlock:=fun e=>by
    obtain⟨c,ai⟩:=OZ gr.ro.row e.symm;exact PW ai gr.blk NH rfl
   have hbk:=db.block H tB ci;exact⟨(World.cell?_of_block (w:=el) (a:=(Nv H 1)) hbk).trans eq,(World.frozen?_of_block (w:=el) (a:=(Nv H 1)) hbk).trans pi⟩
  obtain⟨ry,rz⟩:=kr;clear c7 eq pi dm bT cY fp;have kj:=HLEN.out;refine wt 8 (NM H 0) ?_;refine wt 9 (NM H 1) ?_;refine P6 10 fun K A=>?_;go_simp;refine A _ _ ?_;clear A K;refine wpAny_done OJ ?_ _;go_simp;go_wp2_with fail;go_ret;exact⟨rfl,⟨_,_,_,_,dN.out.1⟩,(OB.of eW (Oi qU.out)).trans dN.out.2⟩),G);exact apv),G);exact apw),G);exact al2
theorem al3 (i:Nat)(x:Ro)(ay:M.NQ[i]? = some x) :
  NK 105 #[NM H 0,Nr (i:Int),Nr (-1)] w fun e w'=>e=NU (Nr (M.NQ.length:Int))/\OO H R w' ⟨M.objs,M.NQ++[⟨(i:Int),(-1),[]⟩]⟩/\OB Th H w w':=by
 have z:=kk (∀{G}(h:G:=by
 have fw:NJ w (w.alloc (.cells #[Nr (i:Int),Nr (-1),PG] 198)):=OM;obtain⟨C5,xB⟩:=al4 (h.later fw) i x ay;clear ay;have d3:=(Xx az _ (Pv h.ob.row) (-1) (.inl NH) (w.alloc (.cells #[Nr (i:Int),Nr (-1),PG] 198)));exact aya),G);exact al2
theorem al5 (j:Nat)(y:Ob)(aT:M.objs[j]? = some y) :
  NK 105 #[NM H 0,Nr (-1),Nr (j:Int)] w fun e w'=>e=NU (Nr (M.NQ.length:Int))/\OO H R w' ⟨M.objs,M.NQ++[⟨(-1),(j:Int),[]⟩]⟩/\OB Th H w w':=by
 have z:=kk (∀{G}(h:G:=by
 have fw:NJ w (w.alloc (.cells #[Nr (-1),Nr (j:Int),PG] 198)):=OM;have ah:=(V4 aB _ (Pv h.ro.row) (-1) (.inl NH) (w.alloc (.cells #[Nr (-1),Nr (j:Int),PG] 198)));obtain⟨kL,tN⟩:=ax9 (h.later fw) j y aT;clear aT;go_enter func105,ntmps105;go_wp2_with fail;refine cm ah ?_;rintro e w1 ⟨rfl,hw⟩;rw[hw];clear hw;go_wp2_with fail;refine cm tN ?_;have z:=kk (∀{G}(h:G:=by
 obtain⟨el,sv⟩:=xE (w.alloc (.cells #[Nr (-1),Nr (j:Int),PG] 198));have z:=kk (∀{G}(h:G:=by
 refine wr2 4 5 (fun K A=>?ca) fun K A=>?cb
 case' ca=>
  go_simp;refine A _ _ ?_;clear A K;refine P6 5 fun K A=>?_;go_simp;refine A _ _ ?_;clear A K;refine P6 6 fun K A=>?_;go_simp;refine A _ _ ?_;clear A K
 case' cb=>
  go_simp;refine A _ _ ?_;clear A K;refine wr2 4 6 (fun K A=>?cc) fun K A=>?cd
 case' cc=>
  go_simp;refine A _ _ ?_;clear A K;refine P6 6 fun K A=>?_;go_simp;refine A _ _ ?_;clear A K
 case' cd=>
  go_simp;refine A _ _ ?_;clear A K;refine P6 4 fun K A=>?_;go_simp;refine A _ _ ?_;clear A K
 all_goals
  refine P6 7 fun K A=>?_;refine step_append_lies _ rfl _ _ 77 rfl H 198 mw _ 3 40 underlying77 d2 dH b6 cq rfl NH _ _ _ rfl (hrow.drew.alloc _) (Nv el.heap.size 0) 1 1 [Nr (-1),Nr (j:Int),PG] rfl rfl (V3 _ _ rfl _ _ _) (Yv _ _) NH (by have:=HLEN.out;unfold maxLen;omega) (by have:=HLEN.out;omega) Qa (el.heap.size+1) Oq ?_
  intro hG hD ao hown3 eQ c7 _;refine A _ _ ?_;clear A K;have db:el.grownBy ao aB.ownBlock:=NS (NS (b:=el.drew) ⟨rfl,rfl,rfl,OH,fun _ _ _=>rfl⟩ (World.grownBy_alloc _ _ _)) eQ;have dN:=hide (gr.aiE (-1) (j:Int) (tv':=.slice (some (Nv hG 0)) (M.NQ.length+1) hD) db hown3);have kr:ao.cell? (Nv H 1)=some aB/\ao.frozen? (Nv H 1)=false:=by
   have ci:some H≠aB.ownBlock:=fun e=>by
    obtain⟨c,ai⟩:=OZ gr.ro.row e.symm;exact PW ai gr.blk NH rfl
   have hbk:=db.block H tB ci;exact⟨(World.cell?_of_block (w:=el) (a:=(Nv H 1)) hbk).trans eq,(World.frozen?_of_block (w:=el) (a:=(Nv H 1)) hbk).trans pi⟩
  obtain⟨ry,rz⟩:=kr;clear c7 eq pi dm bT cY fp;have kj:=HLEN.out;refine wt 8 (NM H 0) ?_;refine wt 9 (NM H 1) ?_;refine P6 10 fun K A=>?_;go_simp;refine A _ _ ?_;clear A K;refine wpAny_done OJ ?_ _;go_simp;go_wp2_with fail;go_ret;exact⟨rfl,⟨_,_,_,_,dN.out.1⟩,(OB.of eW (Oi qU.out)).trans dN.out.2⟩),G);exact apv),G);exact apw),G);exact al2
theorem al6 (i:Nat)(x:Ro)(ay:M.NQ[i]? = some x)(j:Nat)(y:Ob)(aT:M.objs[j]? = some y) :
  NK 105 #[NM H 0,Nr (i:Int),Nr (j:Int)] w fun e w'=>e=NU (Nr (M.NQ.length:Int))/\OO H R w' ⟨M.objs,M.NQ++[⟨(i:Int),(j:Int),[]⟩]⟩/\OB Th H w w':=by
 have z:=kk (∀{G}(h:G:=by
 have fw:NJ w (w.alloc (.cells #[Nr (i:Int),Nr (j:Int),PG] 198)):=OM;obtain⟨C5,xB⟩:=al4 (h.later fw) i x ay;clear ay;obtain⟨kL,tN⟩:=ax9 (h.later fw) j y aT;clear aT;go_enter func105,ntmps105;go_wp2_with fail;refine cm xB ?_;rintro e w1 ⟨rfl,hw⟩;rw[hw];clear hw;go_wp2_with fail;refine cm tN ?_;have z:=kk (∀{G}(h:G:=by
 obtain⟨el,sv⟩:=xE (w.alloc (.cells #[Nr (i:Int),Nr (j:Int),PG] 198));have z:=kk (∀{G}(h:G:=by
 refine wr2 4 5 (fun K A=>?ca) fun K A=>?cb
 case' ca=>
  go_simp;refine A _ _ ?_;clear A K;refine P6 5 fun K A=>?_;go_simp;refine A _ _ ?_;clear A K;refine P6 6 fun K A=>?_;go_simp;refine A _ _ ?_;clear A K
 case' cb=>
  go_simp;refine A _ _ ?_;clear A K;refine wr2 4 6 (fun K A=>?cc) fun K A=>?cd
 case' cc=>
  go_simp;refine A _ _ ?_;clear A K;refine P6 6 fun K A=>?_;go_simp;refine A _ _ ?_;clear A K
 case' cd=>
  go_simp;refine A _ _ ?_;clear A K;refine P6 4 fun K A=>?_;go_simp;refine A _ _ ?_;clear A K
 all_goals
  refine P6 7 fun K A=>?_;refine step_append_lies _ rfl _ _ 77 rfl H 198 mw _ 3 40 underlying77 d2 dH b6 cq rfl NH _ _ _ rfl (hrow.drew.alloc _) (Nv el.heap.size 0) 1 1 [Nr (i:Int),Nr (j:Int),PG] rfl rfl (V3 _ _ rfl _ _ _) (Yv _ _) NH (by have:=HLEN.out;unfold maxLen;omega) (by have:=HLEN.out;omega) Qa (el.heap.size+1) Oq ?_
  intro hG hD ao hown3 eQ c7 _;refine A _ _ ?_;clear A K;have db:el.grownBy ao aB.ownBlock:=NS (NS (b:=el.drew) ⟨rfl,rfl,rfl,OH,fun _ _ _=>rfl⟩ (World.grownBy_alloc _ _ _)) eQ;have dN:=hide (gr.aiE (i:Int) (j:Int) (tv':=.slice (some (Nv hG 0)) (M.NQ.length+1) hD) db hown3);have kr:ao.cell? (Nv H 1)=some aB/\ao.frozen? (Nv H 1)=false:=by
   have ci:some H≠aB.ownBlock:=fun e=>by
    obtain⟨c,ai⟩:=OZ gr.ro.row e.symm;exact PW ai gr.blk NH rfl
   have hbk:=db.block H tB ci;exact⟨(World.cell?_of_block (w:=el) (a:=(Nv H 1)) hbk).trans eq,(World.frozen?_of_block (w:=el) (a:=(Nv H 1)) hbk).trans pi⟩
  obtain⟨ry,rz⟩:=kr;clear c7 eq pi dm bT cY fp;have kj:=HLEN.out;refine wt 8 (NM H 0) ?_;refine wt 9 (NM H 1) ?_;refine P6 10 fun K A=>?_;go_simp;refine A _ _ ?_;clear A K;refine wpAny_done OJ ?_ _;go_simp;go_wp2_with fail;go_ret;exact⟨rfl,⟨_,_,_,_,dN.out.1⟩,(OB.of eW (Oi qU.out)).trans dN.out.2⟩),G);exact apv),G);exact apw),G);exact al2
end
end
end Hp
end Go.Proofs.YticfnaiehdpbmaaGreatDoor
