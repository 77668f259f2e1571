/-
  The grammar's functions go forward, stay ahead of the last token, and, with a bound that is great enough, come to an end.
-/
import Derived.Test.YtoimgcjbcbhclaaGreatDoorWt17
import Derived.ChangeAlike
namespace Go.Proofs.YtoimgcjbcbhclaaGreatDoor
def Nx {α:Type}(q:Prop)(L a:Nat)(r:PR α):Prop:=(q→r≠.out)∧∀ x j,r=.ok x j→a≤j∧j<L
section
variable {α:Type} {q:Prop}
include α q
theorem Nx.ok {L a i:Nat}{x:α}(h1:a≤i)(h2:i<L):Nx q L a (.ok x i):=
 ⟨fun _ h=>by (cases h),fun _ _ h=>by cases h;exact⟨h1,h2⟩⟩
theorem Nx.bad {L a:Nat}{er:Int}{p:Nat}:Nx (α:=α) q L a (.bad er p):=
 ⟨fun _ h=>by (cases h),fun _ _ h=>by (cases h)⟩
theorem Nx.badF {L a:Nat}{l:List Tk}{er:Int}{i:Nat}:Nx (α:=α) q L a (badF l er i):=Nx.bad
end
theorem Nx.bind {α β:Type}{q:Prop}{L a b:Nat}{r:PR α}{f:α→Nat→PR β}(h:Nx q L a r)(hf:∀ x j,a≤j→j<L→Nx q L b (f x j)):Nx q L b (r.bind f):=by
 cases r with
 | ok x j=>exact hf x j (h.2 x j rfl).1 (h.2 x j rfl).2
 | bad er p=>exact Nx.bad
 | out=>exact⟨fun hq=>absurd rfl (h.1 hq),fun _ _ h=>by cases h⟩
theorem Nx.imp {α:Type}{q q':Prop}{L a:Nat}{r:PR α}(h:Nx q L a r)(hq:q'→q):Nx q' L a r:=⟨fun x=>h.1 (hq x),h.2⟩
theorem Nx.le {α:Type}{q:Prop}{L a b:Nat}{r:PR α}(h:Nx q L a r)(hb:b≤a):Nx q L b r:=⟨h.1,fun x j e=>⟨Nat.le_trans hb (h.2 x j e).1,(h.2 x j e).2⟩⟩
def Ends (l:List Tk):Prop:=∀ i,i<l.length→((tkA l i).kd=6↔i+1=l.length)
section
variable {l:List Tk} (hE:Ends l)
include hE
theorem next_lt {i:Nat}(hi:i<l.length)(h:(tkA l i).kd≠6):i+1<l.length:=by
 have:=mt (hE i hi).2 h
 omega
theorem fx_lt {i:Nat}{s:ByteArray}(hi:i<l.length)(h:fx l i=s)(hs:s≠noText):i+1<l.length:=by
 refine next_lt hE hi fun h6=>hs ?_
 rw[←h,fx,h6]
 rfl
theorem look2_lt {β:Type}{ks:List (ByteArray × β)}{x:β}{i:Nat}(hi:i<l.length)(h:look2 ks (fx l i)=some x)(h0:look2 ks noText=none):i+1<l.length:=by
 refine fx_lt hE hi rfl fun h1=>?_
 rw[h1,h0] at h
 cases h
theorem sgP_lt {k:Int}{x:Sg}{i:Nat}(hi:i<l.length)(h:sgP k (fx l i)=some x):i+1<l.length:=by
 refine fx_lt hE hi rfl fun h1=>?_
 rw[h1] at h
 have:sgP k noText=none:=by
  have:sgOf noText=none:=by decide
  simp[sgP,this]
 rw[this] at h
 cases h
theorem mustP_nx {q:Prop}{s:ByteArray}{i:Nat}(hi:i<l.length)(hs:s≠noText):Nx q l.length (i+1) (mustP l s i):=by
 unfold mustP
 split
 ·exact Nx.ok (Nat.le_refl _) (fx_lt hE hi ‹_› hs)
 ·exact Nx.badF
theorem nameP_nx {q:Prop}{i:Nat}(hi:i<l.length):Nx q l.length (i+1) (nameP l i):=by
 unfold nameP
 split
 ·rename_i h
  exact Nx.ok (Nat.le_refl _) (next_lt hE hi (by rw[h];decide))
 ·exact Nx.badF
omit hE in
theorem deepP_nx {q:Prop}{f:Nat→Nat→PR Tr}{d i:Nat}(h:Nx q l.length (i+1) (f (d+1) i)):Nx q l.length (i+1) (deepP l f d i):=by
 unfold deepP
 split
 ·exact Nx.badF
 ·exact h
theorem listLoop_nx {q:Prop}{shut:ByteArray}{begins:Nat→Bool}{part:Nat→PR Tr}{I:Nat}(hs:shut≠noText)(hp:∀ i,I≤i→i<l.length→Nx q l.length (i+1) (part i)) :
  ∀ k acc i,I≤i→i<l.length→Nx (q∧l.length - i<k) l.length (i+1) (listLoop l shut begins part k acc i):=by
 intro k
 induction k with
 | zero=>intro acc i _ _;exact⟨fun h=>absurd h.2 (by omega),fun _ _ h=>by (cases h)⟩
 | succ k ih=>
  intro acc i hI hi;unfold listLoop
  split
  ·exact Nx.badF
  ·refine Nx.bind ((hp i hI hi).imp And.left) fun t j h1 h2=>?_
   split
   ·exact Nx.ok (by omega) (fx_lt hE h2 ‹_› hs)
   ·refine Nx.bind (mustP_nx hE h2 (by decide)) fun _ j2 h3 h4=>?_;exact((ih _ j2 (by omega) h4).le (by omega)).imp fun h=>⟨h.1,by omega⟩
theorem listP_nx {q:Prop}{opn shut:ByteArray}{begins:Nat→Bool}{part:Nat→PR Tr}{k i:Nat}(hi:i<l.length)(ho:opn≠noText)(hs:shut≠noText)(hq:q→l.length - i≤k)(hp:∀ j,i<j→j<l.length→Nx q l.length (j+1) (part j)) :
  Nx q l.length (i+1) (listP l opn shut begins part k i):=by
 unfold listP
 refine Nx.bind (mustP_nx hE hi ho) fun _ j h1 h2=>?_
 split
 ·exact Nx.ok (by omega) (fx_lt hE h2 ‹_› hs)
 ·exact((listLoop_nx hE hs (I:=i+1) (fun j h3 h4=>hp j h3 h4) k [] j h1 h2).le (by omega)).imp fun h=>⟨h,by have:=hq h;omega⟩
structure FNx (l:List Tk)(k:Nat)(F:Fns):Prop where
 fuel:F.fuel=k - 1
 st:∀ d i,i<l.length→Nx (8 * (l.length - i)+3<k) l.length (i+1) (F.st d i)
 vl:∀ d i,i<l.length→Nx (8 * (l.length - i)+2<k) l.length (i+1) (F.vl d i)
 pr:∀ b d i,i<l.length→Nx (8 * (l.length - i)+1<k) l.length (i+1) (F.pr b d i)
 sg:∀ d i,i<l.length→Nx (8 * (l.length - i)<k) l.length (i+1) (F.sg d i)
variable {k:Nat} {F:Fns} (hF:FNx l k F)
include hF
theorem blockLoop_nx {q:Prop}{I:Nat}(hq:q→8 * (l.length - I)≤k+4):∀ n d acc i,I<i→i<l.length→Nx (q∧l.length - i<n) l.length (i+1) (blockLoop l F d n acc i):=by
 intro n
 induction n with
 | zero=>intro d acc i _ _;exact⟨fun h=>absurd h.2 (by omega),fun _ _ h=>by (cases h)⟩
 | succ n ih=>
  intro d acc i hI hi;unfold blockLoop
  split
  ·exact Nx.ok (by omega) (fx_lt hE hi ‹_› (by decide))
  ·refine Nx.bind (deepP_nx ((hF.st (d+1) i hi).imp fun h=>?_)) fun t j h1 h2=>((ih d _ j (by omega) h2).le (by omega)).imp fun h=>⟨h.1,by omega⟩;have:=hq h.1;omega
theorem blockP_nx {q:Prop}{d i:Nat}(hi:i<l.length)(hq:q→8 * (l.length - i)≤k+4):Nx q l.length (i+1) (blockP l F d i):=by
 unfold blockP
 refine Nx.bind (mustP_nx hE hi (by decide)) fun _ j h1 h2=>?_
 refine Nx.bind (((blockLoop_nx hE hF hq F.fuel d [] j (by omega) h2).le (b:=j) (by omega)).imp fun h=>⟨h,?_⟩) fun ts j2 h3 h4=>Nx.ok (by omega) h4
 have:=hq h
 rw[hF.fuel]
 omega
omit hF in
theorem paramP_nx {q:Prop}{i:Nat}(hi:i<l.length):Nx q l.length (i+1) (paramP l i):=by
 unfold paramP
 exact Nx.bind (nameP_nx hE hi) fun s j h1 h2=>Nx.ok h1 h2
theorem paramsP_nx {q:Prop}{i:Nat}(hi:i<l.length)(hq:q→8 * (l.length - i)≤k+4):Nx q l.length (i+1) (paramsP l F i):=by
 unfold paramsP
 refine Nx.bind (listP_nx hE hi (by decide) (by decide) (fun h=>?_) fun j _ h=>paramP_nx hE h) fun ts j h1 h2=>Nx.ok h1 h2
 have:=hq h
 rw[hF.fuel];omega
omit hE in
theorem argP_nx {q:Prop}{d i:Nat}(hi:i<l.length)(hq:q→8 * (l.length - i)+2<k):Nx q l.length (i+1) (argP l F d i):=deepP_nx ((hF.vl _ _ hi).imp hq)
section
variable {q:Prop} {d i:Nat} (hi:i<l.length) (hq:q→8 * (l.length - i)≤k+4)
include q d i hi hq
theorem propP_nx:Nx q l.length (i+1) (propP l F d i):=by
 unfold propP
 refine Nx.bind (nameP_nx hE hi) fun s j h1 h2=>?_
 refine Nx.bind (mustP_nx hE h2 (by decide)) fun _ j2 h3 h4=>?_
 exact Nx.bind (deepP_nx ((hF.vl _ _ h4).imp fun h=>by have:=hq h;omega)) fun t j3 h5 h6=>Nx.ok (by omega) h6
theorem inParP_nx:Nx q l.length (i+1) (inParP l F d i):=by
 unfold inParP
 refine Nx.bind (mustP_nx hE hi (by decide)) fun _ j2 h3 h4=>?_
 refine Nx.bind (deepP_nx ((hF.vl _ _ h4).imp fun h=>by have:=hq h;omega)) fun t j3 h5 h6=>?_
 exact Nx.bind (mustP_nx hE h6 (by decide)) fun _ j4 h7 h8=>Nx.ok (by omega) h8
theorem objectP_nx:Nx q l.length (i+1) (objectP l F d i):=by
 unfold objectP
 refine Nx.bind (listP_nx hE hi (by decide) (by decide) (fun h=>?_) fun j h1 h=>propP_nx hE hF h fun hh=>by have:=hq hh;omega) fun ts j h1 h2=>Nx.ok h1 h2
 have:=hq h
 rw[hF.fuel];omega
end
theorem funcTail_nx {q:Prop}{kd:Int}{s:ByteArray}{d i:Nat}(hi:i<l.length)(hq:q→8 * (l.length - i)≤k+4):Nx q l.length (i+1) (funcTail l F kd s d i):=by
 unfold funcTail
 refine Nx.bind (paramsP_nx hE hF hi hq) fun ps j h1 h2=>?_
 exact Nx.bind (blockP_nx hE hF h2 fun h=>by have:=hq h;omega) fun b j2 h3 h4=>Nx.ok (by omega) h4
section
variable {q:Prop} {d i:Nat} (hi:i<l.length) (hq:q→8 * (l.length - i)≤k+4)
include q d i hi hq
theorem lambdaP_nx:Nx q l.length (i+1) (lambdaP l F d i):=by
 unfold lambdaP
 refine Nx.bind (mustP_nx hE hi (by decide)) fun _ j h1 h2=>?_
 split
 ·exact zbhd
 ·exact(funcTail_nx hE hF h2 fun h=>by have:=hq h;omega).le (by omega)
theorem funcP_nx:Nx q l.length (i+1) (funcP l F d i):=by
 unfold funcP
 refine Nx.bind (mustP_nx hE hi (by decide)) fun _ j h1 h2=>?_
 exact zbhd
theorem aloneP_nx:Nx q l.length (i+1) (aloneP l F d i):=by
 unfold aloneP
 split
 ·exact inParP_nx hE hF hi hq
 ·exact objectP_nx hE hF hi hq
 ·exact lambdaP_nx hE hF hi hq
 ·split
  ·rename_i s hs
   exact Nx.ok (Nat.le_refl _) (sgP_lt hE hi hs)
  ·split
   ·exact zbdu
   ·split
    ·exact zbdu
    ·split
     ·exact zbdu
     ·exact Nx.badF
end
theorem askedLoop_nx {q:Prop}{I:Nat}(hq:q→8 * (l.length - I)≤k+4):∀ n d t i,I<i→i<l.length→Nx (q∧l.length - i<n) l.length i (askedLoop l F d n t i):=by
 intro n
 induction n with
 | zero=>intro d acc i _ _;exact⟨fun h=>absurd h.2 (by omega),fun _ _ h=>by (cases h)⟩
 | succ n ih=>
  intro d t i hI hi;unfold askedLoop
  split
  ·exact zbgb
  ·split
   ·refine Nx.bind (listP_nx hE hi (by decide) (by decide) (fun h=>?_) fun j h1 h=>argP_nx hF h fun hh=>by have:=hq hh.1;omega) fun ts j h1 h2=>((ih d _ j (by omega) h2).le (by omega)).imp fun h=>⟨h.1,by omega⟩
    have:=hq h.1;rw[hF.fuel];omega
   ·exact Nx.ok (Nat.le_refl _) hi
theorem askedP_nx {q:Prop}{d i:Nat}(hi:i<l.length)(hq:q→8 * (l.length - i)≤k+4):Nx q l.length (i+1) (askedP l F d i):=by
 unfold askedP
 refine Nx.bind (aloneP_nx hE hF hi hq) fun t j h1 h2=>((askedLoop_nx hE hF hq F.fuel d t j (by omega) h2).le (by omega)).imp fun h=>⟨h,?_⟩
 have:=hq h
 rw[hF.fuel];omega
theorem singleP_nx {d i:Nat}(hi:i<l.length):Nx (8 * (l.length - i)<k+1) l.length (i+1) (singleP l F d i):=by
 unfold singleP
 split
 ·exact zbgq
 ·exact askedP_nx hE hF hi fun h=>by omega
theorem pairLoop_nx {q:Prop}{I:Nat}(hq:q→8 * (l.length - I)≤k+4):∀ n b d t i,I<i→i<l.length→Nx (q∧l.length - i<n) l.length i (pairLoop l F b d n t i):=by
 intro n
 induction n with
 | zero=>intro b d acc i _ _;exact⟨fun h=>absurd h.2 (by omega),fun _ _ h=>by (cases h)⟩
 | succ n ih=>
  intro b d t i hI hi;unfold pairLoop
  split
  ·exact Nx.ok (Nat.le_refl _) hi
  ·rename_i s hs
   have h0:=sgP_lt hE hi hs
   split
   ·exact Nx.ok (Nat.le_refl _) hi
   ·refine Nx.bind ((hF.pr _ _ _ h0).imp fun h=>?_) fun u j h1 h2=>((ih b d _ j (by omega) h2).le (by omega)).imp fun h=>⟨h.1,by omega⟩;have:=hq h.1;omega
theorem pairP_nx {b:Int}{d i:Nat}(hi:i<l.length):Nx (8 * (l.length - i)+1<k+1) l.length (i+1) (pairP l F b d i):=by
 unfold pairP
 refine Nx.bind ((hF.sg _ _ hi).imp fun h=>by omega) fun t j h1 h2=>((pairLoop_nx hE hF (I:=i) (q:=8 * (l.length - i)+1<k+1) (fun h=>by omega) F.fuel b d t j (by omega) h2).le (by omega)).imp fun h=>⟨h,?_⟩
 rw[hF.fuel];omega
theorem valueP_nx {d i:Nat}(hi:i<l.length):Nx (8 * (l.length - i)+2<k+1) l.length (i+1) (valueP l F d i):=by
 unfold valueP
 refine Nx.bind ((hF.pr _ _ _ hi).imp fun h=>by omega) fun t j h1 h2=>?_
 split
 ·have h0:=fx_lt hE h2 ‹_› (by decide)
  split
  ·exact Nx.bind (deepP_nx ((hF.vl _ _ h0).imp fun h=>by omega)) fun v j2 h3 h4=>Nx.ok (by omega) h4
  ·exact Nx.badF
 ·exact Nx.ok h1 h2
theorem exprP_nx {q:Prop}{d i:Nat}(hi:i<l.length)(hq:q→8 * (l.length - i)+2<k):Nx q l.length (i+1) (exprP l F d i):=by
 unfold exprP
 refine Nx.bind (deepP_nx ((hF.vl _ _ hi).imp hq)) fun v j h1 h2=>?_
 exact Nx.bind (mustP_nx hE h2 (by decide)) fun _ j2 h3 h4=>Nx.ok (by omega) h4
section
variable {q:Prop} {d i:Nat} (hi:i+1<l.length) (hq:q→8 * (l.length - i)≤k+4)
include q d i hi hq
theorem declP_nx:Nx q l.length (i+1) (declP l F d i):=by
 unfold declP
 refine Nx.bind (nameP_nx hE hi) fun s j h1 h2=>?_
 split
 ·exact Nx.badF
 ·split
  ·have h0:=fx_lt hE h2 ‹_› (by decide);refine Nx.bind (deepP_nx ((hF.vl _ _ h0).imp fun h=>by have:=hq h;omega)) fun v j2 h3 h4=>?_
   exact Nx.bind (mustP_nx hE h4 (by decide)) fun _ j3 h5 h6=>Nx.ok (by omega) h6
  ·exact Nx.bind (mustP_nx hE h2 (by decide)) fun _ j3 h5 h6=>Nx.ok (by omega) h6
theorem behindP_nx:Nx q l.length (i+1) (behindP l F d i):=by
 unfold behindP
 refine Nx.bind (inParP_nx hE hF hi fun h=>by have:=hq h;omega) fun v j h1 h2=>?_
 exact Nx.bind (deepP_nx ((hF.st _ _ h2).imp fun h=>by have:=hq h;omega)) fun v j2 h3 h4=>Nx.ok (by omega) h4
theorem choiceP_nx:Nx q l.length (i+1) (choiceP l F d i):=by
 unfold choiceP
 refine Nx.bind (inParP_nx hE hF hi fun h=>by have:=hq h;omega) fun v j h1 h2=>?_
 refine Nx.bind (deepP_nx ((hF.st _ _ h2).imp fun h=>by have:=hq h;omega)) fun v j2 h3 h4=>?_
 split
 ·have h0:=fx_lt hE h4 ‹_› (by decide);exact Nx.bind (deepP_nx ((hF.st _ _ h0).imp fun h=>by have:=hq h;omega)) fun v j3 h5 h6=>Nx.ok (by omega) h6
 ·exact Nx.ok (by omega) h4
theorem givingP_nx:Nx q l.length (i+1) (givingP l F d i):=by
 unfold givingP
 split
 ·refine Nx.bind (deepP_nx ((hF.vl _ _ hi).imp fun h=>by have:=hq h;omega)) fun v j h1 h2=>?_
  exact Nx.bind (mustP_nx hE h2 (by decide)) fun _ j2 h3 h4=>Nx.ok (by omega) h4
 ·exact Nx.bind (mustP_nx hE hi (by decide)) fun _ j2 h3 h4=>Nx.ok (by omega) h4
end
section
variable {q:Prop} {d i:Nat} (hi:i<l.length) (hq:q→8 * (l.length - i)≤k+4)
include q d i hi hq
theorem catchP_nx:Nx q l.length i (catchP l F d i):=by
 unfold catchP
 split
 ·have h0:=fx_lt hE hi ‹_› (by decide);refine Nx.bind (mustP_nx hE h0 (by decide)) fun _ j1 h1 h2=>?_;refine Nx.bind (nameP_nx hE h2) fun _ j2 h3 h4=>?_
  refine Nx.bind (mustP_nx hE h4 (by decide)) fun _ j3 h5 h6=>?_;exact Nx.bind (blockP_nx hE hF h6 fun h=>by have:=hq h;omega) fun b j4 h7 h8=>Nx.ok (by omega) h8
 ·exact Nx.ok (Nat.le_refl _) hi
theorem finallyP_nx:Nx q l.length i (finallyP l F d i):=by
 unfold finallyP
 split
 ·have h0:=fx_lt hE hi ‹_› (by decide);exact Nx.bind (blockP_nx hE hF h0 fun h=>by have:=hq h;omega) fun b j4 h7 h8=>Nx.ok (by omega) h8
 ·exact Nx.ok (Nat.le_refl _) hi
theorem attemptP_nx:Nx q l.length (i+1) (attemptP l F d i):=by
 unfold attemptP
 refine Nx.bind (mustP_nx hE hi (by decide)) fun _ j0 h h0=>?_
 refine Nx.bind (blockP_nx hE hF h0 fun h=>by have:=hq h;omega) fun b j1 h1 h2=>?_
 refine Nx.bind (catchP_nx hE hF h2 fun h=>by have:=hq h;omega) fun c j2 h3 h4=>?_
 refine Nx.bind (finallyP_nx hE hF h4 fun h=>by have:=hq h;omega) fun f j3 h5 h6=>?_
 split
 ·exact Nx.badF
 ·exact Nx.ok (by omega) h6
end
theorem partP_nx {q:Prop}{d i c:Nat}(hi:i+1<l.length)(hq:q→8 * (l.length - i)≤k+4):Nx q l.length (i+1) (partP l F d c i):=by
 unfold partP
 split
 ·exact declP_nx hE hF hi hq
 ·exact funcP_nx hE hF (by omega) hq
 ·exact blockP_nx hE hF (by omega) hq
 ·exact Nx.bind (mustP_nx hE (by omega) (by decide)) fun _ j h1 h2=>Nx.ok h1 h2
 ·exact choiceP_nx hE hF hi hq
 ·exact behindP_nx hE hF hi hq
 ·exact givingP_nx hE hF hi hq
 ·exact attemptP_nx hE hF (by omega) hq
theorem statementP_nx {d i:Nat}(hi:i<l.length):Nx (8 * (l.length - i)+3<k+1) l.length (i+1) (statementP l F d i):=by
 unfold statementP
 split
 ·rename_i c hc
  exact partP_nx hE hF (look2_lt hE hi hc (by decide)) fun h=>by omega
 ·exact exprP_nx hE hF hi fun h=>by omega
omit hF in
theorem fns_nx:∀ k,FNx l k (fns l k):=by
 intro k
 induction k with
 | zero=>exact⟨rfl,fun _ _ _=>⟨fun h=>absurd h (by omega),fun _ _ h=>by (cases h)⟩,fun _ _ _=>⟨fun h=>absurd h (by omega),fun _ _ h=>by (cases h)⟩,fun _ _ _ _=>⟨fun h=>absurd h (by omega),fun _ _ h=>by (cases h)⟩,fun _ _ _=>⟨fun h=>absurd h (by omega),fun _ _ h=>by (cases h)⟩⟩
 | succ k ih=>exact⟨rfl,fun _ _ hi=>statementP_nx hE ih hi,fun _ _ hi=>valueP_nx hE ih hi,fun _ _ _ hi=>pairP_nx hE ih hi,fun _ _ hi=>singleP_nx hE ih hi⟩
end
end Go.Proofs.YtoimgcjbcbhclaaGreatDoor
set_option maxRecDepth 100000
set_option maxHeartbeats 16000000
namespace Go.Proofs.YtoimgcjbcbhclaaGreatDoor
open Go.RowKit
structure Ap (R B:Nat)(w w':World):Prop where
 os:w'.os=w.os
 tape:w'.tape=w.tape
 output:w'.output=w.output
 size:w.heap.size≤w'.heap.size
 block:∀ k,k<B→k≠R→w'.heap[k]? = w.heap[k]?
theorem Ap.refl (R B:Nat)(w:World):Ap R B w w:=⟨rfl,rfl,rfl,Nat.le_refl _,fun _ _ _=>rfl⟩
theorem Ap.of {R B:Nat}{w w':World}(h:Below B w w'):Ap R B w w':=⟨h.os,h.tape,h.output,h.size,fun k hk _=>h.block k hk⟩
theorem Ap.trans {R B:Nat}{a b c:World}(h:Ap R B a b)(k:Ap R B b c):Ap R B a c:=
 ⟨k.os.trans h.os,k.tape.trans h.tape,k.output.trans h.output,Nat.le_trans h.size k.size,fun n hn hr=>(k.block n hn hr).trans (h.block n hn hr)⟩
theorem Ap.mono {R B B':Nat}{w w':World}(h:Ap R B w w')(hB:B'≤B):Ap R B' w w':=⟨h.os,h.tape,h.output,h.size,fun k hk=>h.block k (Nat.lt_of_lt_of_le hk hB)⟩
theorem Ap.next {R:Nat}{a b c:World}(h:Ap R a.heap.size a b)(k:Ap R b.heap.size b c):Ap R a.heap.size a c:=h.trans (k.mono h.size)
section
variable {R B:Nat} {a w:World} (h:Ap R B a w)
include R B a w h
theorem Ap.drew:Ap R B a w.drew:=⟨h.os,h.tape,h.output,h.size,h.block⟩
theorem Ap.alloc (hB:B≤w.heap.size)(o:Obj):Ap R B a (w.alloc o):=
 h.trans (Ap.of ((Below.refl B w).alloc hB o))
theorem Ap.setCell {p:Addr}(hp:B≤p.block∨p.block=R)(u:Value):Ap R B a (w.setCell p u):=
 ⟨h.os,h.tape,h.output,by simpa using h.size,fun k hk hr=>by rw[Below.heap_setCell w p u k (by omega)];exact h.block k hk hr⟩
end
theorem Ap.grown {R B:Nat}{a w w':World}{row:Option Nat}(h:Ap R B a w)(hg:w.grownBy w' row)(hB:B≤w.heap.size)(hr:∀ k,row=some k→B≤k):Ap R B a w':=
 h.trans (Ap.of ((Below.refl B w).grown hg hB hr))
section
variable {R B:Nat} {w w':World} (h:Ap R B w w')
include R B w w' h
theorem Ap.cell {p:Addr}(hp:p.block<B)(hr:p.block≠R):w'.cell? p=w.cell? p:=World.cell?_of_block (w:=w) (h.block p.block hp hr)
theorem Ap.frozen {p:Addr}(hp:p.block<B)(hr:p.block≠R):w'.frozen? p=w.frozen? p:=World.frozen?_of_block (w:=w) (h.block p.block hp hr)
theorem Ap.below (hB:B≤R):Below B w w':=⟨h.os,h.tape,h.output,h.size,fun k hk=>h.block k hk (by omega)⟩
end
theorem lt_of_heap {w:World}{b:Nat}{o:Obj}(h:w.heap[b]? = some o):b<w.heap.size:=(Array.getElem?_eq_some_iff.1 h).1
abbrev nodeObj (kd:Int)(tx:ByteArray)(n:Int)(v:Value):Obj:=.cells #[.int .i64 kd,.string tx,.int .i64 n,v] 49 (0,0)
abbrev nPtr (p:Nat):Value:=.pointer (some ⟨p,0,none⟩)
def KRow (I:Nat→Prop)(w:World)(v:Value)(ps:List Nat):Prop:=w.ownsRow 0 22 1 v ps.length (ps.map nPtr)∧∀ g,v.ownBlock=some g→I g
mutual
def NAt (I:Nat→Prop)(w:World):Tr→Nat→Prop
 | .mk kd tx n ks,p=>I p∧∃ v ps,w.heap[p]? = some (nodeObj kd tx n v)∧KRow I w v ps∧NAts (fun b=>I b∧b≠p) w ks ps
def NAts (I:Nat→Prop)(w:World):List Tr→List Nat→Prop
 | [],ps=>ps=[]
 | t::ts,ps=>∃ p ps' M,ps=p::ps'∧NAt (fun b=>I b∧b<M) w t p∧NAts (fun b=>I b∧M≤b) w ts ps'
end
def Stay (I:Nat→Prop)(w w':World):Prop:=∀ b,I b→b<w.heap.size→w'.heap[b]? = w.heap[b]?
theorem owns_stay {I:Nat→Prop}{w w':World}{B e sz:Nat}{v:Value}{n:Nat}{xs:List Value}(ha:Stay I w w')(hI:∀ g,v.ownBlock=some g→I g)(h:w.ownsRow B e sz v n xs):w'.ownsRow B e sz v n xs:=by
 refine⟨h.1,?_⟩
 rcases h.2 with hn|⟨g,cap,cur,hv,hb,hg,rest⟩
 ·exact Or.inl hn
 ·exact Or.inr ⟨g,cap,cur,hv,hb,by rw[ha g (hI g (by rw[hv];rfl)) (lt_of_heap hg)];exact hg,rest⟩
mutual
theorem NAt.later {I:Nat→Prop}{w w':World}(ha:Stay I w w'):∀ (t:Tr) (p:Nat),NAt I w t p→NAt I w' t p
 | .mk kd tx n ks,p,h=>by
  rw[NAt] at h ⊢;obtain⟨hp,v,ps,hb,hr,hk⟩:=h;exact⟨hp,v,ps,by rw[ha p hp (lt_of_heap hb)];exact hb,⟨owns_stay ha hr.2 hr.1,hr.2⟩,NAts.later (fun b hb hl=>ha b hb.1 hl) ks ps hk⟩
theorem NAts.later {I:Nat→Prop}{w w':World}(ha:Stay I w w'):∀ (ts:List Tr) (ps:List Nat),NAts I w ts ps→NAts I w' ts ps
 | [],ps,h=>by rw[NAts] at h ⊢;exact h
 | t::ts,ps,h=>by
  rw[NAts] at h ⊢;obtain⟨p,ps',M,rfl,h1,h2⟩:=h;exact⟨p,ps',M,rfl,NAt.later (fun b hb hl=>ha b hb.1 hl) t p h1,NAts.later (fun b hb hl=>ha b hb.1 hl) ts ps' h2⟩
end
theorem own_lt {w:World}{B e sz:Nat}{v:Value}{n:Nat}{xs:List Value}(h:w.ownsRow B e sz v n xs)(g:Nat)(hg:v.ownBlock=some g):g<w.heap.size∧B≤g:=by
 rcases h.2 with hn|⟨g',cap,cur,hv,hb,hh,rest⟩
 ·rw[hn.1] at hg;cases hg
 ·rw[hv] at hg;cases hg;exact⟨lt_of_heap hh,hb⟩
mutual
theorem NAt.mono {I J:Nat→Prop}{w:World}(hJ:∀ b,I b→b<w.heap.size→J b):∀ (t:Tr) (p:Nat),NAt I w t p→NAt J w t p
 | .mk kd tx n ks,p,h=>by
  rw[NAt] at h ⊢;obtain⟨hp,v,ps,hb,hr,hk⟩:=h;exact⟨hJ p hp (lt_of_heap hb),v,ps,hb,⟨hr.1,fun g hg=>hJ g (hr.2 g hg) (own_lt hr.1 g hg).1⟩,NAts.mono (fun b hb hl=>⟨hJ b hb.1 hl,hb.2⟩) ks ps hk⟩
theorem NAts.mono {I J:Nat→Prop}{w:World}(hJ:∀ b,I b→b<w.heap.size→J b):∀ (ts:List Tr) (ps:List Nat),NAts I w ts ps→NAts J w ts ps
 | [],ps,h=>by rw[NAts] at h ⊢;exact h
 | t::ts,ps,h=>by
  rw[NAts] at h ⊢;obtain⟨p,ps',M,rfl,h1,h2⟩:=h;exact⟨p,ps',M,rfl,NAt.mono (fun b hb hl=>⟨hJ b hb.1 hl,hb.2⟩) t p h1,NAts.mono (fun b hb hl=>⟨hJ b hb.1 hl,hb.2⟩) ts ps' h2⟩
end
theorem NAts.parts {I:Nat→Prop}{w:World}{t:Tr}{ts:List Tr}{ps:List Nat}(h:NAts I w (t::ts) ps):∃ p ps',ps=p::ps'∧NAt I w t p∧NAts I w ts ps':=by
 rw[NAts] at h
 obtain⟨p,ps',M,e,h1,h2⟩:=h
 exact⟨p,ps',e,NAt.mono (fun b hb _=>hb.1) _ _ h1,NAts.mono (fun b hb _=>hb.1) _ _ h2⟩
theorem NAts.length {I:Nat→Prop}{w:World}:∀ (ts:List Tr) (ps:List Nat),NAts I w ts ps→ps.length=ts.length
 | [],ps,h=>by rw[NAts] at h;rw[h];rfl
 | t::ts,ps,h=>by
  obtain⟨p,ps',rfl,h1,h2⟩:=h.parts;simp[NAts.length ts ps' h2]
section
variable {I:Nat→Prop} {w:World}
include I w
theorem NAts.nil:NAts I w [] []:=by rw[NAts]
theorem NAts.pair {M:Nat}{t u:Tr}{p q:Nat}(h:NAt (fun b=>I b∧b<M) w t p)(h2:NAt (fun b=>I b∧M≤b) w u q):NAts I w [t,u] [p,q]:=by
 rw[NAts]
 refine⟨p,[q],M,rfl,h,?_⟩
 rw[NAts]
 exact⟨q,[],w.heap.size,rfl,NAt.mono (fun _ hb hl=>⟨hb,hl⟩) _ _ h2,NAts.nil⟩
theorem NAts.cons {t:Tr}{p:Nat}(h:NAt I w t p)(_:NAts I w [] []):NAts I w [t] [p]:=by
 rw[NAts]
 exact⟨p,[],w.heap.size,rfl,NAt.mono (fun _ hb hl=>⟨hb,hl⟩) _ _ h,NAts.nil⟩
end
theorem NAts.append {M:Nat}{w:World}{us:List Tr}{qs:List Nat}:∀ (ts:List Tr) (ps:List Nat) {I:Nat→Prop},NAts (fun b=>I b∧M≤b) w us qs→NAts (fun b=>I b∧b<M) w ts ps→NAts I w (ts++us) (ps++qs)
 | [],ps,I,hu,h=>by rw[NAts] at h;subst h;exact NAts.mono (fun b hb _=>hb.1) _ _ hu
 | t'::ts,ps,I,hu,h=>by
  rw[NAts] at h;obtain⟨p',ps',N,rfl,h1,h2⟩:=h
  show NAts I w (t'::(ts++us)) (p'::(ps'++qs))
  rw[NAts]
  refine⟨p',ps'++qs,min N M,rfl,NAt.mono (fun b hb _=>⟨hb.1.1,by have h1:=hb.1.2;have h2:=hb.2;omega⟩) _ _ h1,NAts.append ts ps' (NAts.mono (fun b hb _=>⟨⟨hb.1,by have h1:=hb.2;omega⟩,hb.2⟩) _ _ hu) (NAts.mono (fun b hb _=>⟨⟨hb.1.1,by have h1:=hb.2;omega⟩,hb.1.2⟩) _ _ h2)⟩
def NLs (I:Nat→Prop)(w:World):List Tr→List Nat→Prop
 | [],ps=>ps=[]
 | t::ts,ps=>∃ p ps',ps=p::ps'∧NAt I w t p∧NLs I w ts ps'
theorem NAts.nl {I:Nat→Prop}{w:World}:∀ (ts:List Tr) (ps:List Nat),NAts I w ts ps→NLs I w ts ps
 | [],ps,h=>by rw[NAts] at h;exact h
 | t::ts,ps,h=>by
  obtain⟨p,ps',rfl,h1,h2⟩:=h.parts;exact⟨p,ps',rfl,h1,NAts.nl ts ps' h2⟩
theorem NLs.later {I:Nat→Prop}{w w':World}(ha:Stay I w w'):∀ (ts:List Tr) (ps:List Nat),NLs I w ts ps→NLs I w' ts ps
 | [],_,h=>h
 | _::ts,_,⟨p,ps',e,h1,h2⟩=>⟨p,ps',e,NAt.later ha _ p h1,NLs.later ha ts ps' h2⟩
theorem NLs.length {I:Nat→Prop}{w:World}:∀ (ts:List Tr) (ps:List Nat),NLs I w ts ps→ps.length=ts.length
 | [],_,h=>by rw[show _=_ from h];rfl
 | t::ts,ps,h=>by
  obtain⟨p,ps',rfl,h1,h2⟩:=h;simp[NLs.length ts ps' h2]
theorem NLs.nil {I:Nat→Prop}{w:World}:NLs I w [] []:=rfl
theorem NLs.cons {I:Nat→Prop}{w:World}{t:Tr}{p:Nat}{ts:List Tr}{ps:List Nat}(h:NAt I w t p)(h2:NLs I w ts ps):NLs I w (t::ts) (p::ps):=⟨p,ps,rfl,h,h2⟩
theorem NLs.append {I:Nat→Prop}{w:World}{us:List Tr}{qs:List Nat}(hu:NLs I w us qs):∀ (ts:List Tr) (ps:List Nat),NLs I w ts ps→NLs I w (ts++us) (ps++qs)
 | [],ps,h=>by rw[show ps=[] from h];exact hu
 | t'::ts,ps,h=>by
  obtain⟨p',ps',rfl,h1,h2⟩:=h;exact NLs.cons h1 (NLs.append hu ts ps' h2)
def NV (B:Nat)(w:World)(t:Tr)(v:Value):Prop:=∃ p,v=nPtr p∧NAt (fun b=>B≤b) w t p
def EV (B:Nat)(w:World)(t:Tr)(v:Value):Prop:=
 ∃ p u ps,v=nPtr p∧B≤p∧w.heap[p]? = some (nodeObj t.kd t.tx t.n u)∧w.ownsRow B 22 1 u ps.length (ps.map nPtr)∧u.ownBlock≠some p∧NAts (fun b=>B≤b∧b≠p∧u.ownBlock≠some b) w t.kids ps
def KV (B:Nat)(w:World)(ts:List Tr)(v:Value):Prop:=
 ∃ ps,w.ownsRow B 22 1 v ps.length (ps.map nPtr)∧NAts (fun b=>B≤b∧v.ownBlock≠some b) w ts ps
theorem owns_zero {w:World}{B e sz:Nat}{v:Value}{n:Nat}{xs:List Value}(h:w.ownsRow B e sz v n xs):w.ownsRow 0 e sz v n xs:=by
 refine⟨h.1,?_⟩
 rcases h.2 with hn|⟨g,cap,cur,hv,hb,rest⟩
 ·exact Or.inl hn
 ·exact Or.inr ⟨g,cap,cur,hv,Nat.zero_le _,rest⟩
theorem EV.nv {B:Nat}{w:World}{t:Tr}{v:Value}(h:EV B w t v):NV B w t v:=by
 obtain⟨p,u,ps,rfl,hp,hb,hr,_,hk⟩:=h
 cases t with
 | mk kd tx n ks=>
  refine⟨p,rfl,?_⟩;rw[NAt];exact⟨hp,u,ps,hb,⟨owns_zero hr,fun g hg=>(own_lt hr g hg).2⟩,NAts.mono (fun b hb _=>⟨hb.1,hb.2.1⟩) _ _ hk⟩
theorem Stay.of_ap {R B:Nat}{I:Nat→Prop}{w w':World}(h:Ap R w.heap.size w w')(hB:R<B)(hI:∀ b,I b→B≤b):Stay I w w':=fun b hb hl=>h.block b hl (by have:=hI b hb;omega)
theorem NV.later {R B:Nat}{w w':World}{t:Tr}{v:Value}(h:NV B w t v)(ha:Ap R w.heap.size w w')(hB:R<B):NV B w' t v:=by
 obtain⟨p,rfl,hp⟩:=h
 exact⟨p,rfl,NAt.later (Stay.of_ap ha hB fun _ h=>h) _ _ hp⟩
theorem NV.mono {B B':Nat}{w:World}{t:Tr}{v:Value}(h:NV B w t v)(hB:B'≤B):NV B' w t v:=by
 obtain⟨p,rfl,hp⟩:=h
 exact⟨p,rfl,NAt.mono (fun b h _=>Nat.le_trans hB h) _ _ hp⟩
theorem EV.later {R B:Nat}{w w':World}{t:Tr}{v:Value}(h:EV B w t v)(ha:Ap R w.heap.size w w')(hB:R<B):EV B w' t v:=by
 obtain⟨p,u,ps,rfl,hp,hb,hr,hu,hk⟩:=h
 exact⟨p,u,ps,rfl,hp,by rw[ha.block p (lt_of_heap hb) (by omega)];exact hb,owns_stay (I:=fun b=>B≤b) (Stay.of_ap ha hB fun _ h=>h) (fun g hg=>(own_lt hr g hg).2) hr,hu,NAts.later (Stay.of_ap ha hB fun _ h=>h.1) _ _ hk⟩
theorem EV.mono {B B':Nat}{w:World}{t:Tr}{v:Value}(h:EV B w t v)(hB:B'≤B):EV B' w t v:=by
 obtain⟨p,u,ps,rfl,hp,hb,hr,hu,hk⟩:=h
 refine⟨p,u,ps,rfl,by omega,hb,?_,hu,NAts.mono (fun b h _=>⟨by omega,h.2⟩) _ _ hk⟩
 refine⟨hr.1,?_⟩
 exact zbhb
theorem KV.later {R B:Nat}{w w':World}{ts:List Tr}{v:Value}(h:KV B w ts v)(ha:Ap R w.heap.size w w')(hB:R<B):KV B w' ts v:=by
 obtain⟨ps,hr,hk⟩:=h
 exact⟨ps,owns_stay (I:=fun b=>B≤b) (Stay.of_ap ha hB fun _ h=>h) (fun g hg=>(own_lt hr g hg).2) hr,NAts.later (Stay.of_ap ha hB fun _ h=>h.1) _ _ hk⟩
theorem KV.nil (B:Nat)(w:World):KV B w [] (.slice none 0 0):=⟨[],⟨rfl,Or.inl ⟨rfl,rfl⟩⟩,NAts.nil⟩
theorem heap_new (w:World)(o:Obj):(w.alloc o).heap[w.heap.size]? = some o:=by simpa using heap_alloc_new w o
section
variable {B:Nat} {w:World} {ts:List Tr}
include B w ts
theorem EV.new {v:Value}(h:KV B w ts v)(hB:B≤w.heap.size)(kd:Int)(tx:ByteArray)(n:Int) :
  EV B (w.alloc (nodeObj kd tx n v)) (.mk kd tx n ts) (nPtr w.heap.size):=by
 obtain⟨ps,hr,hk⟩:=h
 have hs:∀ I,Stay I w (w.alloc (nodeObj kd tx n v)):=fun I b _ hl=>Below.heap_alloc w _ b hl
 refine⟨w.heap.size,v,ps,rfl,hB,heap_new _ _,owns_stay (I:=fun _=>True) (hs _) (fun _ _=>trivial) hr,fun h=>?_,NAts.later (hs _) _ _ (NAts.mono (fun b h hl=>⟨h.1,by omega,h.2⟩) _ _ hk)⟩
 exact absurd (own_lt hr _ h).1 (by omega)
theorem KV.row {ps:List Nat}(h:NAts (fun b=>B≤b) w ts ps)(hB:B≤w.heap.size)(hl:ps.length≤maxLen)(cs:Array Value)(hc:cs.toList=ps.map nPtr) :
  KV B (w.alloc (.cells cs 22)) ts (.slice (some ⟨w.heap.size,0,none⟩) ps.length ps.length):=by
 have hs:∀ I,Stay I w (w.alloc (.cells cs 22)):=fun I b _ hl=>Below.heap_alloc w _ b hl
 have hz:cs.size=ps.length:=by rw[←Array.length_toList,hc,List.length_map]
 refine⟨ps,⟨by simp,Or.inr ⟨w.heap.size,ps.length,cs,rfl,hB,heap_new _ _,Nat.le_refl _,hl,by omega,?_⟩⟩,NAts.later (hs _) _ _ (NAts.mono (fun b h hl=>⟨h,fun e=>by simp only[Value.ownBlock,Option.some.injEq] at e;omega⟩) _ _ h)⟩
 rw[hc]
 exact List.take_of_length_le (by simp)
end
structure Ctx where
 R:Nat
 l:List Tk
 tb:Nat
 cap:Nat
 mS:Nat
 mT:Nat
 mV:Nat
 lo:Nat
def sgV (s:Sg):Value:=.agg #[.string s.tx,.int .i64 s.kd,.int .i64 s.parts,.int .i64 s.str]
def mkE (e:(ByteArray × Value) × Nat):MapEntry:={ key:=.string e.1.1,val:=e.1.2,born:=e.2 }
def mapOf (l:List (ByteArray × Value)):Array MapEntry:=((l.zipIdx).map mkE).toArray
def sgMap:Array MapEntry:=mapOf (sgs.map fun e=>(e.tx,sgV e))
def boundV (R:Nat)(f:Nat):Value:=.func (.func f) #[.pointer (some ⟨R,0,none⟩)] #[]
def stFn:Nat→Nat
 | 0=>163
 | 1=>164
 | 2=>165
 | 3=>166
 | 4=>167
 | 5=>168
 | 6=>169
 | _=>170
def vlFn:Nat→Nat
 | 0=>171
 | 1=>172
 | _=>173
def stMap (R:Nat):Array MapEntry:=mapOf (stKeys.map fun e=>(e.1,boundV R (stFn e.2)))
def vlMap (R:Nat):Array MapEntry:=mapOf (vlKeys.map fun e=>(e.1,boundV R (vlFn e.2)))
def hdCells:Array Value:=(hds.flatMap fun e=>[.string e.1,.int .i64 e.2]).toArray
def Ctx.tv (c:Ctx):Value:=.slice (some ⟨c.tb,0,none⟩) c.l.length c.cap
structure Base (c:Ctx)(w:World):Prop where
 ends:Ends c.l
 tokens:∃ cur,w.heap[c.tb]? = some (.cells cur 138 (0,0))∧c.l.length≤c.cap∧c.cap≤maxLen∧cur.size=c.cap * 4∧cur.toList.take (c.l.length * 4)=tksCells c.l
 ntb:c.tb≠c.R
 signs:w.heap[c.mS]? = some (.map sgMap 14)
 nS:c.mS≠c.R
 stms:w.heap[c.mT]? = some (.map (stMap c.R) 12)
 nT:c.mT≠c.R
 vals:w.heap[c.mV]? = some (.map (vlMap c.R) 3)
 nV:c.mV≠c.R
 len:c.l.length≤3001
 heads:∃ t fr,w.heap[3]? = some (.cells hdCells t fr)
 nH:3≠c.R
 old:c.tb<c.lo∧c.mS<c.lo∧c.mT<c.lo∧c.mV<c.lo∧3<c.lo∧c.R<c.lo
 size:c.lo≤w.heap.size
theorem Base.later {c:Ctx}{B:Nat}{w w':World}(h:Base c w)(ha:Ap c.R B w w')(hB:c.lo≤B):Base c w':=by
 obtain⟨h0,⟨cur,h1,h1'⟩,h2,h3,h4,h5,h6,h7,h8,h9,⟨t,fr,h10⟩,h11,h12,h13⟩:=h
 exact⟨h0,⟨cur,by rw[ha.block _ (by omega) h2];exact h1,h1'⟩,h2,by rw[ha.block _ (by omega) h4];exact h3,h4,by rw[ha.block _ (by omega) h6];exact h5,h6,by rw[ha.block _ (by omega) h8];exact h7,h8,h9,⟨t,fr,by rw[ha.block _ (by omega) h11];exact h10⟩,h11,h12,Nat.le_trans h13 ha.size⟩
def rdObj (c:Ctx)(i d:Nat):Obj:=.cells #[c.tv,.int .i64 (i:Int),.int .i64 (d:Int),.map (some c.mS),.map (some c.mT),.map (some c.mV)] 203 (0,0)
structure Rdr (c:Ctx)(w:World)(i d:Nat):Prop where
 base:Base c w
 blk:w.heap[c.R]? = some (rdObj c i d)
 lt:i<c.l.length
 deep:d≤30
theorem Rdr.later {c:Ctx}{w w':World}{i d:Nat}(h:Rdr c w i d)(ha:Below w.heap.size w w'):Rdr c w' i d:=
 ⟨h.base.later (Ap.of ha) h.base.size,by rw[ha.block _ (lt_of_heap h.blk)];exact h.blk,h.lt,h.deep⟩
theorem Rdr.ap {c:Ctx}{B:Nat}{w w':World}{i d:Nat}(h:Rdr c w i d)(ha:Below B w w')(hB:c.lo≤B):Rdr c w' i d:=
 ⟨h.base.later (Ap.of ha) hB,by rw[ha.block _ (by have:=h.base.old;omega)];exact h.blk,h.lt,h.deep⟩
theorem Rdr.rlt {c:Ctx}{w:World}{i d:Nat}(h:Rdr c w i d):c.R<w.heap.size:=lt_of_heap h.blk
section
variable {w:World} {b:Nat} {cs:Array Value} {t:TypeId}
include w b cs t
theorem cell_of {fr:Nat × Nat}(h:w.heap[b]? = some (.cells cs t fr))(o:Nat):w.cell? ⟨b,o,none⟩=cs[o]?:=by
 simp[World.cell?,h]
theorem frozen_of (h:w.heap[b]? = some (.cells cs t (0,0)))(o:Nat):w.frozen? ⟨b,o,none⟩=false:=by
 simp[World.frozen?,h]
end
section
variable {c:Ctx} {w:World} {i d:Nat} (h:Rdr c w i d)
include c w i d h
theorem Rdr.c0:w.cell? ⟨c.R,0,none⟩=some c.tv:=by rw[cell_of h.blk];rfl
theorem Rdr.c1:w.cell? ⟨c.R,1,none⟩=some (.int .i64 (i:Int)):=by rw[cell_of h.blk];rfl
theorem Rdr.c2:w.cell? ⟨c.R,2,none⟩=some (.int .i64 (d:Int)):=by rw[cell_of h.blk];rfl
theorem Rdr.c3:w.cell? ⟨c.R,3,none⟩=some (.map (some c.mS)):=by rw[cell_of h.blk];rfl
theorem Rdr.c4:w.cell? ⟨c.R,4,none⟩=some (.map (some c.mT)):=by rw[cell_of h.blk];rfl
theorem Rdr.c5:w.cell? ⟨c.R,5,none⟩=some (.map (some c.mV)):=by rw[cell_of h.blk];rfl
theorem Rdr.fz (o:Nat):w.frozen? ⟨c.R,o,none⟩=false:=frozen_of h.blk o
end
theorem heap_set {w:World}{b o:Nat}{cs:Array Value}{t:TypeId}{fr:Nat × Nat}(h:w.heap[b]? = some (.cells cs t fr))(v:Value) :
  (w.setCell ⟨b,o,none⟩ v).heap[b]? = some (.cells (cs.setIfInBounds o v) t fr):=by
 obtain⟨hl,he⟩:=Array.getElem?_eq_some_iff.1 h
 have hl2:b<(w.setCell ⟨b,o,none⟩ v).heap.size:=by simpa[World.setCell] using hl
 rw[Array.getElem?_eq_some_iff]
 refine⟨hl2,?_⟩
 simp only[World.setCell,Array.getElem_modify_self,he]
 rfl
section
variable {c:Ctx} {w:World} {i d:Nat} (h:Rdr c w i d)
include c w i d h
theorem Rdr.go (j:Nat)(hj:j<c.l.length):Rdr c (w.setCell ⟨c.R,1,none⟩ (.int .i64 (j:Int))) j d:=
 ⟨h.base.later (Ap.setCell (R:=c.R) (Ap.refl _ _ _) (p:=⟨c.R,1,none⟩) (Or.inr rfl) _) h.base.size,by rw[heap_set h.blk];rfl,hj,h.deep⟩
theorem Rdr.dive (e:Nat)(he:e≤30):Rdr c (w.setCell ⟨c.R,2,none⟩ (.int .i64 (e:Int))) i e:=
 ⟨h.base.later (Ap.setCell (R:=c.R) (Ap.refl _ _ _) (p:=⟨c.R,2,none⟩) (Or.inr rfl) _) h.base.size,by rw[heap_set h.blk];rfl,h.lt,he⟩
end
def faultV (er:Int)(p:Nat):List PanicEntry:=[{ v:=.iface 142 (.agg #[.int .i64 er,.int .i64 (p:Int)]),recovered:=false }]
def PPost {α:Type}(c:Ctx)(w:World)(d:Nat)(V:World→α→Value→Prop)(r:PR α)(e:Ending)(w':World):Prop:=
 match r with
 | .ok x j=>(∃ v,e=.returned v∧V w' x v)∧Rdr c w' j d∧Ap c.R w.heap.size w w'
 | .bad er p=>e=.panicked (faultV er p)∧Ap c.R w.heap.size w w'
 | .out=>True
theorem tl_ne {a b:ByteArray}(h:a≠b):(a.toList==b.toList)=false:=by
 rw[beq_eq_false_iff_ne,ByteArray.toList_eq,ByteArray.toList_eq]
 exact fun e=>h (Go.WideShapes.bytes_inj e)
theorem tl_eq {a b:ByteArray}(h:a=b):(a.toList==b.toList)=true:=by rw[h];exact beq_self_eq_true _
section
variable {a b:ByteArray} {l:List UInt8} (hl:b.data.toList=l)
include a b l hl
theorem tl_neL (h:a≠b):(a.toList==l)=false:=by
 rw[←hl,←ByteArray.toList_eq];exact tl_ne h
theorem tl_eqL (h:a=b):(a.toList==l)=true:=by
 rw[←hl,←ByteArray.toList_eq];exact tl_eq h
end
def tkV (t:Tk):Value:=.agg #[.int .i64 t.kd,.string t.tx,.int .i64 t.n,.int .i64 (t.pl:Int)]
abbrev rPtr (c:Ctx):Value:=.pointer (some ⟨c.R,0,none⟩)
theorem tks_get:∀ (l:List Tk) (i j:Nat),i<l.length→j<4→(tksCells l)[i * 4+j]? =(tkCells (tkA l i))[j]?
 | [],i,j,h,_=>absurd h (by simp)
 | t::l,0,j,_,hj=>by
  simp only[tksCells,List.flatMap_cons,tkA,List.getD_cons_zero,Nat.zero_mul,Nat.zero_add];rw[List.getElem?_append_left (by simp[tkCells];omega)]
 | t::l,i+1,j,h,hj=>by
  have ih:=tks_get l i j (by simpa using h) hj;simp only[tksCells,List.flatMap_cons,tkA,List.getD_cons_succ] at ih ⊢;rw[List.getElem?_append_right (by simp[tkCells];omega)]
  rw[show (i+1) * 4+j - (tkCells t).length=i * 4+j by simp[tkCells];omega]
  exact ih
section
variable {c:Ctx} {w:World} (h:Base c w)
include c w h
theorem Base.tok (i j:Nat)(hi:i<c.l.length)(hj:j<4):w.cell? ⟨c.tb,i * 4+j,none⟩=(tkCells (tkA c.l i))[j]?:=by
 exact zbge
theorem Base.tlt:c.tb<w.heap.size:=by
 obtain⟨cur,hb,_⟩:=h.tokens
 exact lt_of_heap hb
end
theorem token_any (c:Ctx)(w:World)(i d:Nat)(h:Rdr c w i d) :
  Calls Tryz.prog 174 #[rPtr c] w fun e w'=>e=.returned (tkV (tkA c.l i))∧Below w.heap.size w w':=by
 have h0:w.cell? ⟨c.R,0,none⟩=some (.slice (some ⟨c.tb,0,none⟩) c.l.length c.cap):=h.c0
 have h1:=h.c1
 have hR:=h.rlt
 have hT:=h.base.tlt
 have hlt:(i:Int)<(c.l.length:Int):=by have:=h.lt;omega
 have k0:w.cell? ⟨c.tb,i * 4,none⟩=some (.int .i64 (tkA c.l i).kd):=h.base.tok i 0 h.lt (by decide)
 have k1:w.cell? ⟨c.tb,i * 4+1,none⟩=some (.string (tkA c.l i).tx):=h.base.tok i 1 h.lt (by decide)
 have k2:w.cell? ⟨c.tb,i * 4+2,none⟩=some (.int .i64 (tkA c.l i).n):=h.base.tok i 2 h.lt (by decide)
 have k3:w.cell? ⟨c.tb,i * 4+3,none⟩=some (.int .i64 ((tkA c.l i).pl:Int)):=h.base.tok i 3 h.lt (by decide)
 clear h
 go_enter Tryz.func174,Tryz.ntmps174
 go_wp2_with fail
 go_region
 go_wp2_with fail
 exact bodyPost_ret (v:=tkV (tkA c.l i)) (by simp[results,Tryz.results174,go_sem,tkV]) rfl ⟨rfl,((Below.refl _ _).alloc (Nat.le_refl _) _).drew⟩
theorem ret_str {a b:ByteArray}(h:a=b):Ending.returned (.string a)=.returned (.string b):=by rw[h]
theorem fixed_any (c:Ctx)(w:World)(i d:Nat)(h:Rdr c w i d) :
  Calls Tryz.prog 240 #[rPtr c] w fun e w'=>e=.returned (.string (fx c.l i))∧Below w.heap.size w w':=by
 have HT:=hide (token_any c w i d h)
 clear h
 cases h2:(tkA c.l i).kd==2
 ·
  cases h5:(tkA c.l i).kd==5
  all_goals
   go_enter Tryz.func240,Tryz.ntmps240;go_wp2_with fail;refine cm HT.out ?_;rintro e w1 ⟨rfl,hb⟩;have HB:=hide hb;clear hb;unfold tkV;go_wp2_with fail;go_ret
   exact⟨ret_str (by simp[fx,h2,h5]),HB.out.alloc HB.out.size _⟩
 ·go_enter Tryz.func240,Tryz.ntmps240;go_wp2_with fail;refine cm HT.out ?_;rintro e w1 ⟨rfl,hb⟩;have HB:=hide hb;clear hb;unfold tkV;go_wp2_with fail;go_ret
  exact⟨ret_str (by simp[fx,h2]),HB.out.alloc HB.out.size _⟩
section
variable {α:Type} {c:Ctx} {w w':World} {d:Nat} {V:World→α→Value→Prop} {r:PR α}
include α c w w' d V r
theorem ppBad {er:Int}{p:Nat}(hr:r=.bad er p)(ha:Ap c.R w.heap.size w w') :
  PPost c w d V r (.panicked (faultV er p)) w':=by rw[hr];exact⟨rfl,ha⟩
theorem ppOk {x:α}{j:Nat}{v:Value}(hr:r=.ok x j)(hv:V w' x v)(hd:Rdr c w' j d)(ha:Ap c.R w.heap.size w w') :
  PPost c w d V r (.returned v) w':=by rw[hr];exact⟨⟨v,rfl,hv⟩,hd,ha⟩
end
theorem failAt_any (c:Ctx)(er:Int)(t:Tk)(w:World) :
  Calls Tryz.prog 280 #[rPtr c,.int .i64 er,tkV t] w fun e w'=>e=.panicked (faultV er t.pl)∧Below w.heap.size w w':=by
 unfold tkV
 go_enter Tryz.func280,Tryz.ntmps280
 go_wp2_with fail
 exact⟨rfl,rfl,(Below.refl _ _).alloc (Nat.le_refl _) _⟩
theorem fault_any (c:Ctx)(er:Int)(w:World)(i d:Nat)(h:Rdr c w i d) :
  Calls Tryz.prog 241 #[rPtr c,.int .i64 er] w fun e w'=>e=.panicked (faultV er (tkA c.l i).pl)∧Below w.heap.size w w':=by
 have HT:=hide (token_any c w i d h)
 clear h
 go_enter Tryz.func241,Tryz.ntmps241
 go_wp2_with fail
 refine cm HT.out ?_
 rintro e w1 ⟨rfl,hb⟩
 have HB:=hide hb
 clear hb
 have HF:=hide (failAt_any c er (tkA c.l i) w1)
 go_wp2_with fail
 refine cm HF.out ?_
 rintro e w2 ⟨rfl,hb2⟩
 exact⟨rfl,rfl,HB.out.trans (hb2.mono HB.out.size)⟩
theorem Rdr.go2 {c:Ctx}{w:World}{i d:Nat}(h:Rdr c w i d)(j:Nat)(hj:j<c.l.length){v:Int}(hv:v=(j:Int)):Rdr c (w.setCell ⟨c.R,1,none⟩ (.int .i64 v)) j d:=by
 subst hv;exact h.go j hj
theorem ap_next {c:Ctx}{w w1:World}(hb:Below w.heap.size w w1)(v:Value)(o:Nat):Ap c.R w.heap.size w (w1.setCell ⟨c.R,o,none⟩ v):=
 Ap.setCell (R:=c.R) (Ap.of hb) (p:=⟨c.R,o,none⟩) (Or.inr rfl) _
section
variable (c:Ctx) (s:ByteArray) (w:World) (i d:Nat) (h:Rdr c w i d)
include c s w i d h
theorem take_yes (hs:fx c.l i=s)(hn:s≠noText) :
  Calls Tryz.prog 242 #[rPtr c,.string s] w fun e w'=>e=.returned (.bool true)∧Rdr c w' (i+1) d∧Ap c.R w.heap.size w w':=by
 have HT:=hide (fixed_any c w i d h)
 have HR:=hide h
 have hi:i+1<c.l.length:=fx_lt h.base.ends h.lt hs hn
 have hL:=h.base.len
 subst hs
 clear h hn
 go_enter Tryz.func242,Tryz.ntmps242
 go_wp2_with fail
 refine cm HT.out ?_
 rintro e w1 ⟨rfl,hb⟩
 have HB:=hide hb
 have HR1:=hide (HR.out.later hb)
 have h1:=HR1.out.c1
 have hz:=HR1.out.fz
 clear hb
 go_wp2_with fail
 go_ret
 exact⟨rfl,HR1.out.go2 (i+1) hi (by omega),ap_next HB.out _ _⟩
theorem take_not (hs:fx c.l i≠s) :
  Calls Tryz.prog 242 #[rPtr c,.string s] w fun e w'=>e=.returned (.bool false)∧Below w.heap.size w w':=by
 have HT:=hide (fixed_any c w i d h)
 clear h
 have hs1:=tl_ne hs
 clear hs
 go_enter Tryz.func242,Tryz.ntmps242
 go_wp2_with fail
 refine cm HT.out ?_
 rintro e w1 ⟨rfl,hb⟩
 have HB:=hide hb
 clear hb
 go_wp2_with fail
 go_ret
 exact⟨rfl,HB.out⟩
end
abbrev UV:World→Unit→Value→Prop:=fun _ _ v=>v=.tuple #[]
theorem must_any (c:Ctx)(s:ByteArray)(w:World)(i d:Nat)(h:Rdr c w i d)(hn:s≠noText) :
  Calls Tryz.prog 244 #[rPtr c,.string s] w (PPost c w d UV (mustP c.l s i)):=by
 by_cases hs:fx c.l i=s
 ·have HT:=hide (take_yes c s w i d h hs hn);have hm:mustP c.l s i=.ok () (i+1):=by unfold mustP;rw[if_pos hs]
  rw[hm];clear h hn hs hm;go_enter Tryz.func244,Tryz.ntmps244;go_wp2_with fail;refine cm HT.out ?_;rintro e w1 ⟨rfl,hr,ha⟩;have HR:=hide hr;have HA:=hide ha;clear hr ha;go_wp2_with fail
  go_end0
  exact ppOk rfl rfl HR.out HA.out
 ·have HT:=hide (take_not c s w i d h hs);have hm:mustP c.l s i=.bad 3 (tkA c.l i).pl:=by unfold mustP;rw[if_neg hs];rfl
  rw[hm];have HR:=hide h;clear h hn hs hm;go_enter Tryz.func244,Tryz.ntmps244;go_wp2_with fail;refine cm HT.out ?_;exact zbeu
theorem fldKind (t:Tk)(W:World):(Instr.field 138 (.agg #[.int .i64 t.kd,.string t.tx,.int .i64 t.n,.int .i64 (t.pl:Int)]) 0).run Tryz.prog W=.ok (.int .i64 t.kd) W:=by kernel_rfl
theorem fldText (t:Tk)(W:World):(Instr.field 138 (.agg #[.int .i64 t.kd,.string t.tx,.int .i64 t.n,.int .i64 (t.pl:Int)]) 1).run Tryz.prog W=.ok (.string t.tx) W:=by kernel_rfl
theorem atName_any (c:Ctx)(w:World)(i d:Nat)(h:Rdr c w i d) :
  Calls Tryz.prog 247 #[rPtr c] w fun e w'=>e=.returned (.bool (isName c.l i))∧Below w.heap.size w w':=by
 have HT:=hide (token_any c w i d h)
 clear h
 go_enter Tryz.func247,Tryz.ntmps247
 go_wp2_with fail
 refine cm HT.out ?_
 rintro e w1 ⟨rfl,hb⟩
 have HB:=hide hb
 clear hb
 have hfl:=fldKind (tkA c.l i)
 unfold tkV
 go_wp2_with fail
 go_ret
 exact⟨rfl,HB.out⟩
abbrev SV:World→ByteArray→Value→Prop:=fun _ s v=>v=.string s
theorem name_any (c:Ctx)(w:World)(i d:Nat)(h:Rdr c w i d) :
  Calls Tryz.prog 239 #[rPtr c] w (PPost c w d SV (nameP c.l i)):=by
 have HN:=hide (atName_any c w i d h)
 by_cases hs:(tkA c.l i).kd=1
 ·have hm:nameP c.l i=.ok (tkA c.l i).tx (i+1):=by unfold nameP;rw[if_pos hs]
  have hi:i+1<c.l.length:=next_lt h.base.ends h.lt (by rw[hs];decide)
  have hL:=h.base.len;have hk:isName c.l i=true:=by unfold isName;rw[hs];rfl
  rw[hm];rw[hk] at HN;have HR:=hide h;clear h hs hm hk;go_enter Tryz.func239,Tryz.ntmps239;go_wp2_with fail;refine cm HN.out ?_;rintro e w1 ⟨rfl,hb⟩;have HB:=hide hb;have HR1:=hide (HR.out.later hb)
  have HT:=hide (token_any c w1 i d HR1.out);clear hb;go_wp2_with fail;refine cm HT.out ?_;rintro e w2 ⟨rfl,hb⟩;have HB2:=hide (HB.out.trans (hb.mono HB.out.size));have HR2:=hide (HR1.out.later hb)
  have h1:=HR2.out.c1;have hz:=HR2.out.fz;clear hb;have hfl:=fldText (tkA c.l i);unfold tkV;go_wp2_with fail;go_ret;exact ppOk rfl rfl (HR2.out.go2 (i+1) hi (by omega)) (ap_next HB2.out _ _)
 ·have hm:nameP c.l i=.bad 3 (tkA c.l i).pl:=by unfold nameP;rw[if_neg hs];rfl
  have hk:isName c.l i=false:=by unfold isName;exact beq_eq_false_iff_ne.2 hs
  rw[hm];rw[hk] at HN;have HR:=hide h;clear h hs hm hk;go_enter Tryz.func239,Tryz.ntmps239;go_wp2_with fail;refine cm HN.out ?_;exact zbeu
theorem node_any (kd:Int)(tx:ByteArray)(v:Value)(w:World)(hv:∃ a n cap,v=.slice a n cap) :
  Calls Tryz.prog 178 #[.int .i64 kd,.string tx,v] w fun e w'=>e=.returned (nPtr w.heap.size)∧w'=w.alloc (nodeObj kd tx 0 v):=by
 obtain⟨a,n,cap,rfl⟩:=hv
 go_enter Tryz.func178,Tryz.ntmps178
 go_wp2_with fail
 go_ret
 exact⟨rfl,rfl⟩
end Go.Proofs.YtoimgcjbcbhclaaGreatDoor
