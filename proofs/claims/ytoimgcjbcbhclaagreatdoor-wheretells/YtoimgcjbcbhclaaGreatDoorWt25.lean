/-
  A program's nodes have the parts that their kinds need.
-/
import Derived.Test.YtoimgcjbcbhclaaGreatDoorWt24
namespace Go.Proofs.YtoimgcjbcbhclaaGreatDoor
def need (kd:Int):Nat:=if kd=5∨kd=37∨kd=9 then 2 else if kd=13∨kd=24∨kd=34∨kd=35 then 1 else 0
def ar (kd:Int)(n:Nat):Nat:=if need kd≤n then 0 else 1
mutual
def Tr.ill:Tr→Nat
 | .mk kd _ _ ks=>ar kd ks.length+Tr.ills ks
def Tr.ills:List Tr→Nat
 | []=>0
 | t::ts=>t.ill+Tr.ills ts
end
theorem ill_mk (kd:Int)(tx:ByteArray)(n:Int)(ks:List Tr):(Tr.mk kd tx n ks).ill=ar kd ks.length+Tr.ills ks:=by rw[Tr.ill]
theorem need_two (kd:Int):need kd≤2:=by
 unfold need
 split
 ·omega
 ·split <;> omega
theorem ar_two (kd:Int)(n:Nat)(h:2≤n):ar kd n=0:=by
 unfold ar
 rw[if_pos (Nat.le_trans (need_two kd) h)]
theorem ar_small {kd:Int}(h:need kd=0)(n:Nat):ar kd n=0:=by unfold ar;rw[h,if_pos (Nat.zero_le _)]
theorem ills_nil:Tr.ills []=0:=by rw[Tr.ills]
theorem ills_cons (t:Tr)(ts:List Tr):Tr.ills (t::ts)=t.ill+Tr.ills ts:=by rw[Tr.ills]
theorem ills_app:∀ (ts us:List Tr),Tr.ills (ts++us)=Tr.ills ts+Tr.ills us
 | [],us=>by rw[List.nil_append,ills_nil,Nat.zero_add]
 | t::ts,us=>by rw[List.cons_append,ills_cons,ills_cons,ills_app ts us,Nat.add_assoc]
theorem code_ill (t:Tr):(codeT t).ill=t.ill:=by
 unfold codeT
 split
 ·rw[ill_mk,ill_mk]
 ·rfl
theorem sgP_ar {k:Int}{x:ByteArray}{s:Sg}(h:sgP k x=some s):s ∈ sgs∧s.parts=k:=by
 unfold sgP at h
 have h1:=Option.filter_eq_some_iff.1 h
 exact⟨List.mem_of_find?_eq_some h1.1,by simpa using h1.2⟩
section
variable {x:ByteArray}
include x
theorem sgP_ar0 {s:Sg}(h:sgP 0 x=some s):ar s.kd 0=0:=by
 have h1:=sgP_ar h
 have h2:∀ s ∈ sgs,s.parts=0→ar s.kd 0=0:=by decide +kernel
 exact h2 s h1.1 h1.2
theorem sgP_ar1 {s:Sg}(h:sgP 1 x=some s):ar s.kd 1=0:=by
 have h1:=sgP_ar h
 have h2:∀ s ∈ sgs,s.parts=1→ar s.kd 1=0:=by decide +kernel
 exact h2 s h1.1 h1.2
theorem hd_kw {q:Nat}(h:look2 stKeys x=some q)(hq:q≠5)(n:Nat):ar (hdKind x) n=0:=by
 refine ar_small ?_ n
 unfold look2 at h
 cases hf:stKeys.find? (fun e=>decide (x=e.1)) with
 | none=>rw[hf] at h;cases h
 | some e=>
  rw[hf] at h;have h1:=List.mem_of_find?_eq_some hf;have h3:x=e.1:=by simpa using List.find?_some hf
  have h2:∀ e ∈ stKeys,e.2≠5→need (hdKind e.1)=0:=by decide +kernel
  rw[h3];refine h2 e h1 ?_;cases h;exact hq
end
theorem fx_tx {l:List Tk}{i q:Nat}(h:look2 stKeys (fx l i)=some q):fx l i=(tkA l i).tx:=by
 unfold fx at h ⊢
 split
 ·rfl
 ·rename_i hn
  rw[if_neg hn] at h;exact absurd h (by rw[show look2 stKeys noText=none from by decide +kernel];nofun)
section
variable {l:List Tk}
def Kw (_:Nat)(r:PR Tr):Prop:=∀ t j,r=.ok t j→t.ill≤0
def Kws (_:Nat)(r:PR (List Tr)):Prop:=∀ t j,r=.ok t j→Tr.ills t≤0
theorem deep_kw {f:Nat→Nat→PR Tr}{d i:Nat}(h:Kw i (f (d+1) i)):Kw i (deepP l f d i):=by
 unfold deepP
 split
 ·intro t j e;cases e
 ·exact h
theorem listLoop_kw {shut:ByteArray}{begins:Nat→Bool}{part:Nat→PR Tr}(hp:∀ i,Kw i (part i)):∀ k acc i t j,listLoop l shut begins part k acc i=.ok t j→Tr.ills t≤Tr.ills acc:=by
 intro k
 induction k with
 | zero=>intro acc i t j h;cases h
 | succ k ih=>
  intro acc i t j h;unfold listLoop at h
  split at h
  ·
   cases h
  ·obtain⟨u,i1,h1,h⟩:=binds h;have:=hp i u i1 h1
   split at h
   ·
    cases h;rw[ills_app,ills_cons,ills_nil];first|omega | (simp[ar,need] <;> omega) | (simp[ar,need] at * <;> omega)
   ·obtain⟨_,i2,h2,h⟩:=binds h;have h3:=must_eq h2;have h4:=ih _ _ _ _ h;rw[ills_app,ills_cons,ills_nil] at h4;exact zbcu
theorem list_kw {opn shut:ByteArray}{begins:Nat→Bool}{part:Nat→PR Tr}(hp:∀ i,Kw i (part i)){k i j:Nat}{t:List Tr}(h:listP l opn shut begins part k i=.ok t j):Tr.ills t≤0:=by
 unfold listP at h
 obtain⟨_,i1,h1,h⟩:=binds h
 have h2:=must_eq h1
 split at h
 ·
  cases h;rw[ills_nil];first|omega | (simp[ar,need] <;> omega) | (simp[ar,need] at * <;> omega)
 ·have:=listLoop_kw hp _ _ _ _ _ h;rw[ills_nil] at this;exact zbcu
structure FKw (F:Fns):Prop where
 st:∀ d i,Kw i (F.st d i)
 vl:∀ d i,Kw i (F.vl d i)
 pr:∀ b d i,Kw i (F.pr b d i)
 sg:∀ d i,Kw i (F.sg d i)
variable {F:Fns} (hF:FKw F)
include hF
theorem blockLoop_kw {d:Nat}:∀ k acc i t j,blockLoop l F d k acc i=.ok t j→Tr.ills t≤Tr.ills acc:=by
 intro k
 induction k with
 | zero=>intro acc i t j h;cases h
 | succ k ih=>
  intro acc i t j h;unfold blockLoop at h;exact zcbw
theorem block_kw {d i j:Nat}{t:Tr}(h:blockP l F d i=.ok t j):t.ill≤0:=by
 unfold blockP at h
 obtain⟨_,i1,h1,h⟩:=binds h
 obtain⟨ts,i2,h2,h⟩:=binds h
 cases h
 have h3:=must_eq h1
 have h4:=blockLoop_kw hF _ _ _ _ _ h2
 rw[ills_nil] at h4
 rw[ill_mk];first|omega | (simp[ar,need] <;> omega) | (simp[ar,need] at * <;> omega)
omit hF in
theorem param_kw (i:Nat):Kw i (paramP l i):=by
 intro t j h
 unfold paramP at h
 obtain⟨_,i1,h1,h⟩:=binds h
 cases h
 have:=name_eq h1
 rw[ill_mk,ills_nil];first|omega | (simp[ar,need] <;> omega) | (simp[ar,need] at * <;> omega)
omit hF in
theorem params_kw {i j:Nat}{t:Tr}(h:paramsP l F i=.ok t j):t.ill≤0:=by
 unfold paramsP at h
 obtain⟨ts,i1,h1,h⟩:=binds h
 cases h
 have:=list_kw param_kw h1
 rw[ill_mk];first|omega | (simp[ar,need] <;> omega) | (simp[ar,need] at * <;> omega)
section
variable (d i:Nat)
include d i
theorem arg_kw:Kw i (argP l F d i):=deep_kw (hF.vl _ _)
theorem prop_kw:Kw i (propP l F d i):=by
 intro t j h
 unfold propP at h
 obtain⟨_,i1,h1,h⟩:=binds h
 obtain⟨_,i2,h2,h⟩:=binds h
 obtain⟨u,i3,h3,h⟩:=binds h
 cases h
 have e1:=name_eq h1
 have e2:=must_eq h2
 have e3:=deep_kw (l:=l) (hF.vl _ _) u _ h3
 rw[ill_mk,ills_cons,ills_nil];first|omega | (simp[ar,need] <;> omega) | (simp[ar,need] at * <;> omega)
theorem inPar_kw:Kw i (inParP l F d i):=by
 intro t j h
 unfold inParP at h
 obtain⟨_,i1,h1,h⟩:=binds h
 obtain⟨u,i2,h2,h⟩:=binds h
 obtain⟨_,i3,h3,h⟩:=binds h
 cases h
 have e1:=must_eq h1
 have e2:=deep_kw (l:=l) (hF.vl _ _) _ _ h2
 have e3:=must_eq h3
 first|omega | (simp[ar,need] <;> omega) | (simp[ar,need] at * <;> omega)
theorem object_kw:Kw i (objectP l F d i):=by
 intro t j h
 unfold objectP at h
 obtain⟨ts,i1,h1,h⟩:=binds h
 cases h
 have:=list_kw (prop_kw hF d) h1
 rw[ill_mk];first|omega | (simp[ar,need] <;> omega) | (simp[ar,need] at * <;> omega)
end
theorem tail_kw {kd:Int}{s:ByteArray}{d i j:Nat}{t:Tr}(h:funcTail l F kd s d i=.ok t j):t.ill≤0:=by
 unfold funcTail at h
 obtain⟨ps,i1,h1,h⟩:=binds h
 obtain⟨b,i2,h2,h⟩:=binds h
 cases h
 have e1:=params_kw h1
 have e2:=block_kw hF h2
 rw[ill_mk,ills_cons,ills_cons,ills_nil,code_ill,ar_two _ _ (by simp)];omega
theorem lambda_kw (d i:Nat):Kw i (lambdaP l F d i):=by
 intro t j h
 unfold lambdaP at h
 obtain⟨_,i1,h1,h⟩:=binds h
 have e1:=must_eq h1
 split at h
 ·obtain⟨_,i2,h2,h⟩:=binds h;have e2:=name_eq h2;have:=tail_kw hF h;exact zbcu
 ·have:=tail_kw hF h;exact zbcu
theorem func_kw (d i:Nat):Kw i (funcP l F d i):=by
 intro t j h
 unfold funcP at h
 obtain⟨_,i1,h1,h⟩:=binds h
 obtain⟨_,i2,h2,h⟩:=binds h
 have e1:=must_eq h1
 have e2:=name_eq h2
 have:=tail_kw hF h
 exact zbcu
theorem alone_kw (d i:Nat):Kw i (aloneP l F d i):=by
 unfold aloneP
 split
 ·exact inPar_kw hF d i
 ·exact object_kw hF d i
 ·exact lambda_kw hF d i
 ·split
  ·rename_i hsg;intro t j h;cases h;have h0:=sgP_ar0 hsg;rw[ill_mk,ills_nil];show ar _ 0+0≤0;omega
  ·split
   ·exact zbey
   ·split
    ·exact zbey
    ·split
     ·exact zbey
     ·intro t j h;cases h
theorem askedLoop_kw {d:Nat}:∀ k u i t j,askedLoop l F d k u i=.ok t j→t.ill≤u.ill:=by
 intro k
 induction k with
 | zero=>intro u i t j h;cases h
 | succ k ih=>
  intro u i t j h;unfold askedLoop at h
  split at h
  ·obtain⟨s,i1,h1,h⟩:=binds h;have e1:=name_eq h1;have e2:=ih _ _ _ _ h;rw[ill_mk,ills_cons,ills_nil] at e2;have hk36:∀ n,ar 36 n=0:=ar_small (by decide);rw[hk36] at e2;omega
  ·split at h
   ·obtain⟨ts,i1,h1,h⟩:=binds h;have e1:=list_kw (arg_kw hF d) h1;have e2:=ih _ _ _ _ h;rw[ill_mk,ills_cons] at e2
    have hk35:∀ n,ar 35 (n+1)=0:=(fun n=>by simp[ar,need]);rw[List.length_cons,hk35] at e2;omega
   ·exact zbeb
theorem asked_kw (d i:Nat):Kw i (askedP l F d i):=by
 intro t j h
 unfold askedP at h
 obtain⟨u,i1,h1,h⟩:=binds h
 have e1:=alone_kw hF d i u i1 h1
 have e2:=askedLoop_kw hF _ _ _ _ _ h
 exact zbcu
theorem single_kw (d i:Nat):Kw i (singleP l F d i):=by
 unfold singleP
 split
 ·rename_i hsg
  intro t j h;obtain⟨u,i1,h1,h⟩:=binds h;cases h;have:=deep_kw (l:=l) (hF.sg _ _) u _ h1;have h0:=sgP_ar1 hsg;rw[ill_mk,ills_cons,ills_nil];show ar _ 1+_≤0;omega
 ·exact asked_kw hF d i
theorem pairLoop_kw {b:Int}{d:Nat}:∀ k u i t j,pairLoop l F b d k u i=.ok t j→t.ill≤u.ill:=by
 intro k
 induction k with
 | zero=>intro u i t j h;cases h
 | succ k ih=>
  intro u i t j h;unfold pairLoop at h
  split at h
  ·exact zbeb
  ·rename_i hsg
   split at h
   ·exact zbeb
   ·obtain⟨v,i1,h1,h⟩:=binds h;have e1:=hF.pr _ _ _ v i1 h1;have e2:=ih _ _ _ _ h;rw[ill_mk,ills_cons,ills_cons,ills_nil,ar_two _ _ (by simp)] at e2;omega
theorem pair_kw (b:Int)(d i:Nat):Kw i (pairP l F b d i):=by
 intro t j h
 unfold pairP at h
 obtain⟨u,i1,h1,h⟩:=binds h
 have e1:=hF.sg _ _ u i1 h1
 have e2:=pairLoop_kw hF _ _ _ _ _ h
 exact zbcu
theorem value_kw (d i:Nat):Kw i (valueP l F d i):=by
 intro t j h
 unfold valueP at h
 obtain⟨u,i1,h1,h⟩:=binds h
 have e1:=hF.pr _ _ _ u i1 h1
 split at h
 ·split at h
  ·obtain⟨v,i2,h2,h⟩:=binds h;cases h;have e2:=deep_kw (l:=l) (hF.vl _ _) v _ h2;rw[ill_mk,ills_cons,ills_cons,ills_nil];first|omega | (simp[ar,need] <;> omega) | (simp[ar,need] at * <;> omega)
  ·
   cases h
 ·
  cases h;exact e1
theorem part_kw (d q i:Nat)(hq:look2 stKeys (fx l i)=some q):Kw i (partP l F d q i):=by
 rw[fx_tx hq] at hq
 intro t j h
 unfold partP at h
 split at h
 ·unfold declP at h;obtain⟨s,i1,h1,h⟩:=binds h;have e1:=name_eq h1
  split at h
  ·
   cases h
  ·split at h
   ·obtain⟨v,i2,h2,h⟩:=binds h;obtain⟨_,i3,h3,h⟩:=binds h;cases h;have e2:=deep_kw (l:=l) (hF.vl _ _) v _ h2;have e3:=must_eq h3;rw[ill_mk,ills_cons,ills_nil,hd_kw hq (by decide)];omega
   ·obtain⟨_,i3,h3,h⟩:=binds h;cases h;have e3:=must_eq h3;rw[ill_mk,ills_nil,hd_kw hq (by decide)];omega
 ·exact func_kw hF d i t j h
 ·have:=block_kw hF h;first|omega | (simp[ar,need] <;> omega) | (simp[ar,need] at * <;> omega)
 ·obtain⟨_,i3,h3,h⟩:=binds h;cases h;have e3:=must_eq h3;rw[ill_mk,ills_nil];first|omega | (simp[ar,need] <;> omega) | (simp[ar,need] at * <;> omega)
 ·unfold choiceP at h;obtain⟨v,i1,h1,h⟩:=binds h;obtain⟨s,i2,h2,h⟩:=binds h;have e1:=inPar_kw hF d _ v i1 h1;have e2:=deep_kw (l:=l) (hF.st _ _) s _ h2
  split at h
  ·obtain⟨s2,i3,h3,h⟩:=binds h;cases h;have e3:=deep_kw (l:=l) (hF.st _ _) s2 _ h3;rw[ill_mk,ills_cons,ills_cons,ills_cons,ills_nil,ar_two _ _ (by simp)];omega
  ·
   cases h;rw[ill_mk,ills_cons,ills_cons,ills_nil,ar_two _ _ (by simp)];omega
 ·unfold behindP at h;obtain⟨v,i1,h1,h⟩:=binds h;obtain⟨s,i2,h2,h⟩:=binds h;cases h;have e1:=inPar_kw hF d _ v i1 h1;have e2:=deep_kw (l:=l) (hF.st _ _) s _ h2
  rw[ill_mk,ills_cons,ills_cons,ills_nil,ar_two _ _ (by simp)];omega
 ·unfold givingP at h
  split at h
  ·obtain⟨v,i1,h1,h⟩:=binds h;obtain⟨_,i2,h2,h⟩:=binds h;cases h;have e1:=deep_kw (l:=l) (hF.vl _ _) v _ h1;have e2:=must_eq h2;rw[ill_mk,ills_cons,ills_nil,hd_kw hq (by decide)];omega
  ·obtain⟨_,i2,h2,h⟩:=binds h;cases h;have e2:=must_eq h2;rw[ill_mk,ills_nil,hd_kw hq (by decide)];omega
 ·unfold attemptP at h;obtain⟨_,i0,h0,h⟩:=binds h;obtain⟨b,i1,h1,h⟩:=binds h;obtain⟨c,i2,h2,h⟩:=binds h;obtain⟨f,i3,h3,h⟩:=binds h;have e0:=must_eq h0;have e1:=block_kw hF h1
  have e2:Tr.ills c≤0:=by
   unfold catchP at h2
   split at h2
   ·obtain⟨_,k1,g1,h2⟩:=binds h2;obtain⟨_,k2,g2,h2⟩:=binds h2;obtain⟨_,k3,g3,h2⟩:=binds h2;obtain⟨bb,k4,g4,h2⟩:=binds h2;cases h2;have:=must_eq g1;have:=name_eq g2;have:=must_eq g3
    have:=block_kw hF g4;rw[ills_cons,ill_mk,ills_cons,ills_nil];first|omega | (simp[ar,need] <;> omega) | (simp[ar,need] at * <;> omega)
   ·
    cases h2;rw[ills_nil];first|omega | (simp[ar,need] <;> omega) | (simp[ar,need] at * <;> omega)
  have e3:Tr.ills f≤0:=by
   unfold finallyP at h3
   split at h3
   ·obtain⟨bb,k4,g4,h3⟩:=binds h3;cases h3;have:=block_kw hF g4;rw[ills_cons,ill_mk,ills_cons,ills_nil];first|omega | (simp[ar,need] <;> omega) | (simp[ar,need] at * <;> omega)
   ·
    cases h3;rw[ills_nil];first|omega | (simp[ar,need] <;> omega) | (simp[ar,need] at * <;> omega)
  split at h
  ·
   cases h
  ·
   cases h;rw[ill_mk,ills_cons,ills_app];first|omega | (simp[ar,need] <;> omega) | (simp[ar,need] at * <;> omega)
theorem statement_kw (d i:Nat):Kw i (statementP l F d i):=by
 unfold statementP
 split
 ·rename_i q hq
  exact part_kw hF d _ i hq
 ·intro t j h;unfold exprP at h;obtain⟨v,i1,h1,h⟩:=binds h;obtain⟨_,i2,h2,h⟩:=binds h;cases h;have e1:=deep_kw (l:=l) (hF.vl _ _) v _ h1;have e2:=must_eq h2
  rw[ill_mk,ills_cons,ills_nil];first|omega | (simp[ar,need] <;> omega) | (simp[ar,need] at * <;> omega)
omit hF in
theorem fns_kw:∀ k,FKw (fns l k):=by
 intro k
 induction k with
 | zero=>exact⟨fun _ _ _ _ h=>by (cases h),fun _ _ _ _ h=>by (cases h),fun _ _ _ _ _ h=>by (cases h),fun _ _ _ _ h=>by (cases h)⟩
 | succ k ih=>exact⟨statement_kw ih,value_kw ih,pair_kw ih,single_kw ih⟩
theorem progLoop_kw:∀ k acc i t j,progLoop l F k acc i=.ok t j→Tr.ills t≤Tr.ills acc:=by
 intro k
 induction k with
 | zero=>intro acc i t j h;cases h
 | succ k ih=>
  intro acc i t j h;unfold progLoop at h;exact zcbw
theorem prog_kw {t:Tr}{j:Nat}(h:progP l F=.ok t j):t.ill≤0:=by
 unfold progP at h
 obtain⟨ts,i1,h1,h⟩:=binds h
 cases h
 have:=progLoop_kw hF _ _ _ _ _ h1
 rw[ills_nil] at this
 rw[code_ill,ill_mk];first|omega | (simp[ar,need] <;> omega) | (simp[ar,need] at * <;> omega)
end
theorem ills_all:∀ (ks:List Tr),Tr.ills ks=0→∀ k ∈ ks,k.ill=0
 | [],_=>fun k hk=>absurd hk (by simp)
 | t::ts,h=>fun k hk=>by
  rw[ills_cons] at h
  rcases List.mem_cons.1 hk with rfl|hk
  ·omega
  ·exact ills_all ts (by omega) k hk
theorem ill_of (t:Tr)(h:t.ill=0):need t.kd≤t.kids.length∧∀ k ∈ t.kids,k.ill=0:=by
 cases t with
 | mk kd tx n ks=>
  rw[ill_mk] at h;refine⟨?_,ills_all ks (by omega)⟩;have h1:ar kd ks.length=0:=by omega
  unfold ar at h1
  split at h1
  ·assumption
  ·omega
theorem prog_ill {l:List Tk}{t:Tr}{j k:Nat}(h:progP l (fns l k)=.ok t j):t.ill=0:=by
 have h1:t.ill≤0:=prog_kw (fns_kw k) h
 exact Nat.le_zero.1 h1
theorem parse_ill {ws gs:List ByteArray}{s:ByteArray}{t:Tr}(h:parseS ws gs s=.ok t):t.ill=0:=by
 unfold parseS at h
 split at h
 ·
  cases h
 ·split at h
  ·
   cases h
  ·rename_i l _
   cases hp:progP l (fns l KK) with
   | out=>rw[hp] at h;cases h
   | bad er p=>rw[hp] at h;cases h
   | ok t2 j=>
    rw[hp] at h;simp only at h
    split at h
    ·
     cases h
    ·
     cases h;exact prog_ill hp
end Go.Proofs.YtoimgcjbcbhclaaGreatDoor
set_option maxRecDepth 100000
set_option maxHeartbeats 16000000
namespace Go.Proofs.YtoimgcjbcbhclaaGreatDoor
open Go.RowKit
def ceT (t:Tr):Bool:=t.kd==35&&(match t.kids with|k::_=>k.kd==23&&decide (k.tx=tEval) | []=>false)
mutual
def evW:Tr→Bool
 | .mk kd tx n ks=>ceT (.mk kd tx n ks)||(if isFunT (.mk kd tx n ks) then false else evWs ks)
def evWs:List Tr→Bool
 | []=>false
 | t::ts=>evW t||evWs ts
end
def evalsT (t:Tr):Bool:=ceT t||evWs t.kids
theorem evW_eq (t:Tr):evW t=(ceT t||(if isFunT t then false else evWs t.kids)):=by
 cases t with
 | mk kd tx n ks=>rw[evW];rfl
theorem AAt.first {I:Nat→Prop}{w:World}{a k:Ad}{ks:List Ad}(h:AAt I w a)(hk:a.ks=k::ks):∃ g cap,w.cell? ⟨a.p,3,none⟩=some (.slice (some ⟨g,0,none⟩) (ks.length+1) cap)∧g<w.heap.size∧w.cell? ⟨g,0,none⟩=some (nPtr k.p)∧AAt I w k:=by
 obtain⟨_,_,_,_,v,c3,hr,_⟩:=h.cells
 rw[hk] at hr
 obtain⟨g,cap,rfl,hc⟩:=row_open hr (by simp)
 refine⟨g,cap,?_,(own_lt hr g rfl).1,?_,h.parts k (by rw[hk];simp)⟩
 ·rw[c3];simp
 ·have:=hc 0 (by simp);simpa using this
theorem callsEval_any {I:Nat→Prop}{t:Ad}{w:World}(ht:AAt I w t)(hk:t.kd=35→t.ks≠[]) :
  Calls Tryz.prog 73 #[nPtr t.p] w fun e w'=>e=.returned (.bool (ceT t.tr))∧w'=w:=by
 obtain⟨_,hpl,c0,_,_⟩:=ht.cells
 obtain⟨e1,_,e3⟩:=t.tr_eq
 unfold ceT
 rw[e1,e3]
 obtain⟨p,hp⟩:∃ p,p=t.p:=⟨_,rfl⟩
 cases h35:(t.kd==35) with
 | false=>
  rw[Bool.false_and];rw[←hp] at hpl c0 ⊢
  generalize t.kd=kd at c0 h35
  clear hp ht hk e1 e3;exact zbfb
 | true=>
  have hn:=hk (by simpa using h35)
  cases hks:t.ks with
  | nil=>exact absurd hks hn
  | cons k ks=>
   obtain⟨g,cap,c3,hg,d0,hA⟩:=ht.first hks
   obtain⟨_,hql,k0,k1,_⟩:=hA.cells;obtain⟨f1,f2,_⟩:=k.tr_eq;rw[List.map_cons];simp only;rw[f1,f2];rw[←hp] at hpl c0 c3 ⊢;obtain⟨q,hq⟩:∃ q,q=k.p:=⟨_,rfl⟩;rw[←hq] at hql k0 k1 d0
   generalize t.kd=kd at c0 h35
   generalize k.kd=kk at k0
   generalize k.tx=kx at k1
   generalize ks.length=n at c3
   have hn0:(0:Int)<(((n+1:Nat)):Int):=by omega
   clear hp ht hk e1 e3 hA f1 f2 hq hks hn
   cases h23:(kk==23) with
   | false=>
    exact zbfb
   | true=>
    by_cases hx:kx=tEval
    ·have e2:=tl_eqL (b:=tEval) rfl hx;rw[decide_eq_true hx];clear hx;exact zbfb
    ·have e2:=tl_neL (b:=tEval) rfl hx;rw[decide_eq_false hx];clear hx;exact zbfb
theorem isFunW_any (t:Tr)(p:Nat)(w:World)(h:NTr w t p):Calls Tryz.prog 74 #[nPtr p] w fun e w'=>e=.returned (.bool (isFunT t))∧w'=w:=by
 obtain⟨hpl,c0,_,_⟩:=h.cells
 clear h
 unfold isFunT
 generalize t.kd=kd at c0
 cases h3:(kd==5)
 all_goals
  go_enter Tryz.func74,Tryz.ntmps74;go_wp2_with fail;go_ret;exact⟨rfl,rfl⟩
structure Evs (fb nb root:Nat)(b:Bool)(w:World):Prop where
 found:w.heap[fb]? = some (.cells #[.bool b] 4 (0,0))
 word:w.heap[nb]? = some (.cells #[nPtr root] 22 (0,0))
 node:Cl w root
def evF (root:Nat)(b:Bool)(t:Ad):Bool × Bool:=(b||ceT t.tr,decide (t.p=root) || !isFunT t.tr)
theorem evals1_any {fb nb root:Nat}{b:Bool}{t:Ad}{I:Nat→Prop}{w:World}(hE:Evs fb nb root b w)(ht:AAt I w t)(hk:t.kd=35→t.ks≠[])(hI:∀ x,I x→x≠fb)(hne:nb≠fb)(hrf:root≠fb) :
  Calls Tryz.prog 72 #[nPtr t.p,.pointer (some ⟨fb,0,none⟩),.pointer (some ⟨nb,0,none⟩)] w fun e w'=>e=.returned (.bool (evF root b t).2)∧w'=w.setCell ⟨fb,0,none⟩ (.bool (evF root b t).1):=by
 have f0:w.cell? ⟨fb,0,none⟩=some (.bool b):=by rw[cell_of hE.found];rfl
 have ff:=frozen_of hE.found 0
 have fl:=lt_of_heap hE.found
 have HCE:=hide (callsEval_any ht hk)
 obtain⟨w1,hw1⟩:∃ w1,w1=w.setCell ⟨fb,0,none⟩ (.bool (b||ceT t.tr)):=⟨_,rfl⟩
 have hS:∀ x,x≠fb→w1.heap[x]? = w.heap[x]?:=fun x hx=>by rw[hw1];exact Below.heap_setCell w ⟨fb,0,none⟩ _ x hx
 have ht1:AAt I w1 t:=AAt.later (fun x hx _=>hS x (hI x hx)) _ ht
 have HIF:=hide (isFunW_any t.tr t.p w1 (NAt.nt ht1.nat))
 have n1:w1.cell? ⟨nb,0,none⟩=some (nPtr root):=by rw[cell_of (by rw[hS nb hne];exact hE.word)];rfl
 have hr1:Cl w1 root:=by
  obtain⟨cs,ty,hc⟩:=hE.node;exact⟨cs,ty,by rw[hS root hrf];exact hc⟩
 have hq:(binOp .eql 22 (nPtr t.p) (nPtr root)).run Tryz.prog w1=.ok (.bool (decide (t.p=root))) w1:=by
  simp only[binOp];simp[eq_ptr ht1.cl hr1]
 have hnl:nb<w1.heap.size:=by rw[hw1];simpa using lt_of_heap hE.word
 unfold evF
 simp only
 generalize ceT t.tr=c at HCE hw1
 generalize isFunT t.tr=fn at HIF
 generalize decide (t.p=root)=eqr at hq
 generalize t.p=p at HCE HIF hq
 have n0:w.cell? ⟨nb,0,none⟩=some (nPtr root):=by rw[cell_of hE.word];rfl
 have hnl0:=lt_of_heap hE.word
 clear hE ht hk hI hrf hS ht1 hr1
 cases b with
 | true=>
  rw[Bool.true_or] at hw1 ⊢;subst hw1
  cases eqr with
  | true=>
   go_enter Tryz.func72,Tryz.ntmps72;go_wp2_with fail;go_ret;exact⟨rfl,rfl⟩
  | false=>
   go_enter Tryz.func72,Tryz.ntmps72;go_wp2_with fail;refine cm HIF.out ?_;rintro e w2 ⟨rfl,rfl⟩;clear HIF;go_wp2_with fail;go_ret;exact⟨by cases fn <;> rfl,rfl⟩
 | false=>
  rw[Bool.false_or] at hw1 ⊢;subst hw1
  cases eqr with
  | true=>
   go_enter Tryz.func72,Tryz.ntmps72;go_wp2_with fail;refine cm HCE.out ?_;rintro e w2 ⟨rfl,rfl⟩;clear HCE;go_wp2_with fail;go_ret;exact⟨rfl,rfl⟩
  | false=>
   go_enter Tryz.func72,Tryz.ntmps72;go_wp2_with fail;refine cm HCE.out ?_;rintro e w2 ⟨rfl,rfl⟩;clear HCE;go_wp2_with fail;refine cm HIF.out ?_;rintro e w3 ⟨rfl,rfl⟩;clear HIF;go_wp2_with fail;go_ret
   exact⟨by cases fn <;> rfl,rfl⟩
mutual
theorem evW_wk (root:Nat):∀ (t:Ad) (b:Bool),root ∉ t.ads→wk (evF root) b t=(b||evW t.tr)
 | .mk p kd tx n ks,b,h=>by
  rw[Ad.ads,List.mem_cons,not_or] at h;rw[wk,Ad.tr,evW];have hp:decide ((Ad.mk p kd tx n ks).p=root)=false:=decide_eq_false (fun e=>h.1 e.symm);simp only[evF,hp,Bool.false_or];rw[Ad.tr]
  cases isFunT (.mk kd tx n (Ad.trs ks)) with
  | true=>simp
  | false=>
   simp only[Bool.not_false,if_true,Bool.false_eq_true,if_false];rw[evWs_wk root ks _ h.2,Bool.or_assoc]
theorem evWs_wk (root:Nat):∀ (ts:List Ad) (b:Bool),root ∉ Ad.adss ts→wks (evF root) b ts=(b||evWs (Ad.trs ts))
 | [],b,_=>by rw[wks,Ad.trs,evWs,Bool.or_false]
 | t::ts,b,h=>by
  rw[Ad.adss,List.mem_append,not_or] at h;rw[wks,evW_wk root t b h.1,evWs_wk root ts _ h.2,Ad.trs,evWs,Bool.or_assoc]
end
theorem evals_wk (t:Ad)(b:Bool)(h:t.ads.Nodup):wk (evF t.p) b t=(b||evalsT t.tr):=by
 cases t with
 | mk p kd tx n ks=>
  rw[Ad.ads,List.nodup_cons] at h;have h2:evF p b (.mk p kd tx n ks)=(b||ceT (Ad.mk p kd tx n ks).tr,true):=by
   unfold evF;rw[show (Ad.mk p kd tx n ks).p=p from rfl,decide_eq_true rfl,Bool.true_or]
  rw[show (Ad.mk p kd tx n ks).p=p from rfl,wk,h2];simp only[if_true];rw[evWs_wk p ks _ h.1,evalsT,Bool.or_assoc,Ad.tr];rfl
theorem ill_call {t:Ad}(h:t.tr.ill=0):t.kd=35→t.ks≠[]:=by
 intro hk e
 have h1:=(ill_of _ h).1
 obtain⟨e1,_,e3⟩:=t.tr_eq
 rw[e1,e3,e,hk] at h1
 exact absurd h1 (by decide)
theorem ill_parts {t:Ad}(h:t.tr.ill=0):∀ k ∈ t.ks,k.tr.ill=0:=by
 intro k hk
 refine(ill_of _ h).2 _ ?_
 rw[t.tr_eq.2.2]
 exact List.mem_map_of_mem hk
theorem en72:∀ args W,(callFunc 72 args).run Tryz.prog W=.ok (.enter 72 args) W:=fun _ _=>by kernel_rfl
theorem evals_any {I:Nat→Prop}(t:Ad)(w:World)(ht:AAt I w t)(hd:t.ads.Nodup)(hi:t.tr.ill=0)(hc:t.cnt≤90000) :
  Calls Tryz.prog 28 #[nPtr t.p] w fun e w'=>e=.returned (.bool (evalsT t.tr))∧Below w.heap.size w w':=by
 obtain⟨w2,hw2⟩:∃ w2,w2=(w.alloc (.cells #[nPtr t.p] 22)).alloc (.cells #[.bool false] 4):=⟨_,rfl⟩
 have hb2:Below w.heap.size w w2:=by
  rw[hw2];exact((Below.refl _ _).alloc (Nat.le_refl _) _).alloc (by simp) _
 have hs2:w2.heap.size=w.heap.size+2:=by rw[hw2];simp
 have e1:(w.alloc (.cells #[nPtr t.p] 22)).heap.size=w.heap.size+1:=by simp
 obtain⟨_,hpl,_⟩:=ht.cells
 have hA2:AAt (fun b=>b<w.heap.size+2∧b≠w.heap.size+1) w2 t:=
  AAt.later (I:=fun b=>b<w.heap.size+2∧b≠w.heap.size+1) (fun b hb hl=>hb2.block b hl) _ (AAt.mono (fun b _ hl=>⟨by omega,by omega⟩) _ ht)
 have hN:Evs (w.heap.size+1) w.heap.size t.p false w2:=by
  refine⟨?_,?_,hA2.cl⟩
  ·rw[hw2,←e1];exact heap_new _ _
  ·rw[hw2,Below.heap_alloc _ _ _ (by simp)];exact heap_new _ _
 have HC:=hide (walkG2 72 (.pointer (some ⟨w.heap.size+1,0,none⟩)) (.pointer (some ⟨w.heap.size,0,none⟩)) (fun b=>b<w.heap.size+2∧b≠w.heap.size+1) (Ap (w.heap.size+1) (w.heap.size+2)) (Evs (w.heap.size+1) w.heap.size t.p) (evF t.p) (fun _ ts=>∀ x ∈ ts,x.tr.ill=0) en72 (fun W=>by kernel_rfl)
  (fun _ _ _ h k=>h.trans k) (fun w w' h=>⟨fun b hb _=>h.block b hb.1 hb.2,h.size⟩)
  (fun b x ts h y hy=>by
   rcases List.mem_append.1 hy with hy|hy
   ·split at hy
    ·exact ill_parts (h x (by simp)) y hy
    ·
     cases hy
   ·exact h y (by simp[hy]))
  (fun b x ts w' h hI hA=>by
   refine(evals1_any hI hA (ill_call (h x (by simp))) (fun y hy=>hy.2) (by omega) (by omega)).mono ?_;rintro e w3 ⟨rfl,rfl⟩
   refine⟨rfl,⟨by rw[heap_set hI.found];rfl,?_,?_⟩,Ap.setCell (R:=w.heap.size+1) (Ap.refl _ _ _) (p:=⟨w.heap.size+1,0,none⟩) (Or.inr rfl) _⟩
   ·rw[Below.heap_setCell _ ⟨w.heap.size+1,0,none⟩ _ _ (by simp)];exact hI.word
   ·obtain⟨cs,ty,hcl⟩:=hI.node;exact⟨cs,ty,by rw[Below.heap_setCell _ ⟨w.heap.size+1,0,none⟩ _ _ (by show t.p≠w.heap.size+1;omega)];exact hcl⟩)
  t.cnt t (Nat.le_refl _) hc [] false w2 (fun x hx=>by rw[List.mem_singleton.1 hx];exact hi) hN hA2)
 rw[evals_wk t false hd,Bool.false_or] at HC
 generalize evalsT t.tr=ev at HC
 generalize t.p=p at HC hw2
 have HB2:=hide hb2
 rw[hw2] at HC
 have HW2:=hide hw2
 clear hb2 hs2 e1 hN ht hd hc hi hA2 hpl hw2
 go_enter Tryz.func28,Tryz.ntmps28
 go_wp2_with fail
 refine cm HC.out ?_
 rintro e w3 ⟨rfl,hn3,_,ha3⟩
 have hw:w3.cell? ⟨w.heap.size+1,0,none⟩=some (.bool ev):=by rw[cell_of hn3.found];rfl
 rw[←HW2.out] at ha3
 have HB3:Hid (Below w.heap.size w w3):=HB2.out.trans ((ha3.mono (by omega)).below (by omega))
 clear hn3 ha3 HC
 go_wp2_with fail
 go_ret
 exact⟨rfl,HB3.out⟩
theorem row_cellsP {B:Nat}{w:World}{g n cap:Nat}{ps:List Nat}(h:w.ownsRow B 22 1 (.slice (some ⟨g,0,none⟩) n cap) n (ps.map nPtr)):∀ j u,(ps.map nPtr)[j]? = some u→w.cell? ((⟨g,0,none⟩:Addr).add j)=some u:=by
 exact zccp
theorem map_oneP (qs:List Nat):∀ u ∈ qs.map nPtr,u.oneCell'=true:=by
 intro u hu
 obtain⟨q,_,rfl⟩:=List.mem_map.1 hu
 rfl
theorem own_oneP (w:World)(p:Nat){B:Nat}(hB:B≤w.heap.size):(w.alloc (.cells #[nPtr p] 22)).ownsRow B 22 1 (.slice (some ⟨w.heap.size,0,none⟩) 1 1) 1 [nPtr p]:=⟨rfl,Or.inr ⟨w.heap.size,1,#[nPtr p],rfl,hB,heap_new _ _,Nat.le_refl _,by decide,rfl,rfl⟩⟩
theorem adss_take (l:List Ad)(k:Nat)(hk:k<l.length):Ad.adss (l.take (k+1))=Ad.adss (l.take k)++(l[k]).ads:=by
 rw[List.take_succ_eq_append_getElem hk,adss_app,Ad.adss,Ad.adss,List.append_nil]
theorem allA_any {I:Nat→Prop}:∀ (m:Nat) (t:Ad),t.cnt≤m→∀ (w:World),AAt I w t→t.cnt≤90000 →
  Calls Tryz.prog 25 #[nPtr t.p] w fun e w'=>(∃ v,e=.returned v∧w'.ownsRow w.heap.size 22 1 v t.ads.length (t.ads.map nPtr))∧Below w.heap.size w w':=by
 intro m
 induction m with
 | zero=>intro t ht;have:=cnt_pos t;omega
 | succ m ih=>
  intro t ht w hnt hbd;obtain⟨i0,hi0,hz0,hz1,hz2⟩:=info_parts info22;obtain⟨_,hpl,_,_,v0,f3,hrow,_⟩:=hnt.cells;have hlen:(t.ks.map Ad.p).length=t.ks.length:=List.length_map _
  obtain⟨ua,uc,hu⟩:=row_shut hrow;subst hu;rw[hlen] at f3;have hca:=cnt_eq t;have HADS:=hide (ads_eq t);have HKS:=hide hnt.parts;have HROW:=hide hrow;have HIH:=hide ih;have HLEN:=hide hlen
  have hkb:t.ks.length≤90000:=by have h1:=cnts_len t.ks;omega
  have HCK:Hid (∀ k (hk:k<t.ks.length),(t.ks[k]).cnt≤m∧Ad.cnts (t.ks.take k)+(t.ks[k]).cnt≤90000):=fun k hk=>by
   have h1:Ad.cnts t.ks=Ad.cnts (t.ks.take k)+Ad.cnts (t.ks.drop k):=by rw[←cnts_app,List.take_append_drop]
   rw[List.drop_eq_getElem_cons hk,Ad.cnts] at h1;omega
  generalize t.p=p at f3 hpl HADS ⊢
  clear hnt hrow ih ht hbd hlen hca;go_enter Tryz.func25,Tryz.ntmps25;go_wp2_with fail
  go_loopw [3,15] (fun o i wr=>∃ (k:Nat),k≤t.ks.length∧i=.int .i64 k∧wr.ownsRow w.heap.size 22 1 o (p::Ad.adss (t.ks.take k)).length ((p::Ad.adss (t.ks.take k)).map nPtr)∧Below w.heap.size w wr) (fun _ i _=>t.ks.length - (intOf i).toNat)
  case atStart=>exact⟨0,Nat.zero_le _,rfl,by simpa[Ad.adss] using own_oneP w p (Nat.le_refl _),(Below.refl _ _).alloc (Nat.le_refl _) _⟩
  case round=>
   obtain⟨k,hk,rfl,hown,hbel⟩:=hrel;have HOWN:=hide hown;have HBEL:=hide hbel;obtain⟨oa,oc,rfl⟩:=row_shut hown;clear hown hbel
   by_cases hlt:k<t.ks.length
   ·obtain⟨g,cap,hv,hcell⟩:=row_open HROW.out (by have:=unhide HLEN;omega)
    simp only[Value.slice.injEq] at hv;obtain⟨rfl,hxx,rfl⟩:=hv;clear hxx;have hkp:k<(t.ks.map Ad.p).length:=by rw[HLEN.out];exact hlt
    have hgl:g<w.heap.size:=(own_lt HROW.out g rfl).1;obtain⟨q,hq⟩:∃ q,q=(t.ks[k]).p:=⟨_,rfl⟩;have hck:wr.cell? ⟨g,k,none⟩=some (nPtr q):=by
     rw[HBEL.out.cell (p:=⟨g,k,none⟩) hgl,hcell k hkp,List.getElem_map,hq]
    have hck2:=unhide HCK k hlt;have HC:=hide (HIH.out t.ks[k] hck2.1 wr (AAt.later (fun b _ hl=>HBEL.out.block b hl) _ (unhide HKS _ (List.getElem_mem hlt))) (by omega));have HTK:=hide (adss_take t.ks k hlt)
    rw[←hq] at HC;have hki:(k:Int)<(t.ks.length:Int):=by omega
    have hl1:(p::Ad.adss (t.ks.take k)).length+(t.ks[k]).ads.length≤90001:=by rw[List.length_cons,Ad.adss_len,Ad.ads_len];omega
    have hl2:0<(t.ks[k]).ads.length:=by rw[Ad.ads_len];exact cnt_pos _
    generalize (t.ks[k]).ads=xs at HC HTK hl1 hl2
    obtain⟨ys,hys⟩:∃ ys,ys=p::Ad.adss (t.ks.take k):=⟨_,rfl⟩;rw[←hys] at HOWN hl1 ⊢;have HYS:=hide hys;have hgr:g<wr.heap.size:=Nat.lt_of_lt_of_le hgl HBEL.out.size;clear hcell hq hck2 hys hkp
    go_wp2_with fail;refine cm HC.out ?_;rintro e w2 ⟨⟨v,rfl,hown2⟩,hb2⟩
    have HOWN2:Hid (w2.ownsRow w.heap.size 22 1 (.slice oa ys.length oc) ys.length (ys.map nPtr)):=owns_stay (I:=fun _=>True) (fun b _ hl=>hb2.block b hl) (fun _ _=>trivial) HOWN.out
    obtain⟨g2,cap2,rfl,hg2,hg2l⟩:=hown2.form hl2;have HNEW:=hide hown2;have hz2':w.heap.size≤w2.heap.size:=Nat.le_trans HBEL.out.size hb2.size;have HB2:=hide (HBEL.out.trans (hb2.mono HBEL.out.size))
    have HOB:=hide (own_lt HOWN2.out);clear hown2 hb2 HC hck HOWN
    go_wp2_with (at_builtin;refine wpList_append_lies _ rfl _ _ 46 rfl w.heap.size 22 i0 (.pointer none) 1 8 Tryz.underlying46 hi0 hz0 hz1 hz2 rfl (by decide) _ _ _ rfl HOWN2.out ⟨g2,0,none⟩ xs.length cap2 (xs.map nPtr) rfl (by simp) (row_cellsP HNEW.out) (map_oneP xs) hl2 (by unfold maxLen;omega) (by omega) hz2' _ rfl ?_)
    intro g' cap' w3 hown' hgrow hg' _;have HB3:=hide (HB2.out.grown hgrow hz2' (fun b hb=>(unhide HOB b hb).2));have HO3:=hide hown';clear hown' hgrow hg' HNEW HOWN2;go_wp2_with fail
    go_roundw
    case rel=>exact⟨k+1,by omega,by go_num,by rw[HTK.out,←List.cons_append,←HYS.out,List.length_append,List.map_append];exact HO3.out,HB3.out⟩
    case measure=>simp[intOf];omega
   ·have hkk:k=t.ks.length:=by omega
    subst hkk;go_wp2_with fail;go_ret;have h:=unhide HOWN;rw[List.take_length] at h;rw[HADS.out];refine⟨⟨_,rfl,?_⟩,HBEL.out⟩
    show wr.ownsRow w.heap.size 22 1 (.slice oa (p::Ad.adss (t.ks.take t.ks.length)).length oc) _ _
    rw[List.take_length];exact h
theorem add_mem {l:List ByteArray}{s x:ByteArray}:x ∈ addB l s↔x ∈ l∨x=s:=by
 unfold addB
 split
 ·rename_i h
  constructor
  ·exact Or.inl
  ·rintro(h1|rfl)
   ·exact h1
   ·exact hasB_iff.1 h
 ·simp
theorem fold_mem:∀ (l acc:List ByteArray) (x:ByteArray),x ∈ l.foldl addB acc↔x ∈ acc∨x ∈ l
 | [],acc,x=>by simp
 | s::l,acc,x=>by
  rw[List.foldl_cons,fold_mem l,add_mem];simp[or_assoc]
section
variable {l:List ByteArray} {x:ByteArray}
include l x
theorem once_mem:x ∈ onceL l↔x ∈ l:=by rw[onceL,fold_mem];simp
theorem addB_in (h:x ∈ l):addB l x=l:=by unfold addB;rw[if_pos (hasB_iff.2 h)]
end
theorem fold_add (acc pre:List ByteArray)(x:ByteArray):(addB pre x).foldl addB acc=addB (pre.foldl addB acc) x:=by
 by_cases hx:x ∈ pre
 ·rw[show addB pre x=pre by unfold addB;rw[if_pos (hasB_iff.2 hx)]]
  have h2:x ∈ pre.foldl addB acc:=(fold_mem _ _ _).2 (Or.inr hx);rw[addB_in h2]
 ·rw[show addB pre x=pre++[x] by unfold addB;rw[if_neg (by rw[hasB_no.2 hx];decide)],List.foldl_append]
  rfl
theorem fold_fold (acc:List ByteArray):∀ (l pre:List ByteArray),(l.foldl addB pre).foldl addB acc=l.foldl addB (pre.foldl addB acc)
 | [],_=>rfl
 | x::l,pre=>by rw[List.foldl_cons,fold_fold acc l,fold_add,List.foldl_cons]
theorem fold_once (acc l:List ByteArray):(onceL l).foldl addB acc=l.foldl addB acc:=fold_fold acc l []
theorem once_once (l:List ByteArray):onceL (onceL l)=onceL l:=fold_once [] l
section
variable {B:Nat} (l:List ByteArray) (s:ByteArray) (v:Value) (w:World) (h:SRow B w v l)
include B l s v w h
open zrqcy in
theorem rhas_any (hl:l.length≤90000) :
  Calls Tryz.prog 53 #[v,.string s] w fun e w'=>e=.returned (.bool (hasB l s))∧w'=w:=by
 obtain⟨va,vc,rfl⟩:=srow_form h
 have HR:=hide h
 obtain⟨R,hR⟩:∃ R,R=hasB l s:=⟨_,rfl⟩
 rw[←hR]
 have HRR:=hide hR
 clear h hR
 go_enter Tryz.func53,Tryz.ntmps53
 go_wp2_with fail
 go_loopw [9] (fun i wr=>∃ k:Nat,k≤l.length∧i=.int .i64 k∧s ∉ l.take k∧wr=w) (fun i _=>l.length - (intOf i).toNat)
 case atStart=>exact⟨0,Nat.zero_le _,rfl,by simp,rfl⟩
 case round=>
  obtain⟨k,hk,rfl,hns,rfl⟩:=hrel;have HNS:=hide hns;clear hns
  by_cases hlt:k<l.length
  ·exact zrdd
  ·have hkk:k=l.length:=by omega
   subst hkk;have hRf:R=false:=by
    have h:=unhide HNS;rw[List.take_length] at h;rw[HRR.out,hasB_no];exact h
   subst hRf;go_wp2_with fail;go_ret;exact⟨rfl,rfl⟩
theorem radd_any (hl:l.length≤80000)(hB:B≤w.heap.size) :
  Calls Tryz.prog 77 #[v,.string s] w fun e w'=>(∃ u,e=.returned u∧SRow B w' u (addB l s))∧Below w.heap.size w w':=by
 obtain⟨i0,hi0,hz0,hz1,hz2⟩:=info_parts info9
 have HC:=hide (rhas_any l s v w h (by omega))
 obtain⟨va,vc,rfl⟩:=srow_form h
 have HR:=hide h
 unfold addB
 clear h
 cases hh:hasB l s with
 | true=>
  rw[hh] at HC;clear hh;simp only[if_true];go_enter Tryz.func77,Tryz.ntmps77;go_wp2_with fail;refine cm HC.out ?_;rintro e w1 ⟨rfl,rfl⟩;clear HC;go_wp2_with fail;go_ret
  exact⟨⟨_,rfl,HR.out⟩,Below.refl _ _⟩
 | false=>
  rw[hh] at HC;clear hh;simp only[Bool.false_eq_true,if_false];go_enter Tryz.func77,Tryz.ntmps77;go_wp2_with fail;refine cm HC.out ?_;rintro e w1 ⟨rfl,rfl⟩;clear HC
  go_wp2_with (at_builtin;refine wpList_app_row rfl _ _ 38 rfl w1.heap.size _ 9 i0 (.string ByteArray.empty) 16 Tryz.underlying38 hi0 hz0 hz1 hz2 rfl _ _ _ rfl (World.ownsRow_lit w1 #[] 0 (Nat.le_refl _) (by decide) rfl) _ _ _ rfl (HR.out.alloc _) (srow_ones l) (by unfold maxLen;omega) (by omega) (by simp) ?_)
  intro v2 w2 hown2 hgr2;have hsr2:w2.ownsRow w1.heap.size 9 1 v2 l.length (l.map Value.string):=by simpa using hown2
  have hb2:Below w1.heap.size w1 w2:=((Below.refl _ _).alloc (Nat.le_refl _) _).grown hgr2 (by simp) (fun k hk=>by simp[Value.ownBlock] at hk;omega)
  obtain⟨a2,c2,rfl⟩:=srow_form hsr2;have HR2:=hide hsr2;have HB2:=hide hb2;have hz2':=hb2.size;clear hown2 hgr2 hsr2 hb2
  go_wp2_with (at_builtin;refine wpList_append_lies _ rfl _ _ 38 rfl w1.heap.size 9 i0 (.string ByteArray.empty) 1 16 Tryz.underlying38 hi0 hz0 hz1 hz2 rfl (by decide) _ _ _ rfl (HR2.out.alloc _) ⟨w2.heap.size,0,none⟩ 1 1 [.string s] rfl rfl (hoCellsS w2 s _ rfl) (hoOneS s) (by decide) (by unfold maxLen;omega) (by omega) (by simp;omega) (w2.heap.size+1) (by simp) ?_)
  intro g' cap' w3 hown' hgrow hg' _;have HB3:=hide ((HB2.out.alloc hz2' (.cells #[.string s] 9)).grown hgrow (by simp;omega) (fun b hb=>(own_lt HR2.out b hb).2))
  have HO3:Hid (SRow B w3 (.slice (some ⟨g',0,none⟩) (l.length+1) cap') (l++[s])):=by
   have h1:SRow w1.heap.size w3 (.slice (some ⟨g',0,none⟩) (l.length+1) cap') (l++[s]):=by
    show World.ownsRow _ _ _ _ _ _ _
    rw[List.length_append,List.map_append];exact hown'
   exact srow_mono h1 hB
  clear hown' hgrow hg';go_wp2_with fail;go_ret;exact⟨⟨_,rfl,HO3.out⟩,HB3.out⟩
end
theorem risFunc_any (t:Tr)(p:Nat)(w:World)(h:NTr w t p):Calls Tryz.prog 55 #[nPtr p] w fun e w'=>e=.returned (.bool (isFunT t))∧w'=w:=by
 obtain⟨hpl,c0,_,_⟩:=h.cells
 clear h
 unfold isFunT
 generalize t.kd=kd at c0
 cases h3:(kd==5)
 all_goals
  go_enter Tryz.func55,Tryz.ntmps55;go_wp2_with fail;go_ret;exact⟨rfl,rfl⟩
structure Sc where
 own:Int
 nms:List ByteArray
 opn:Bool
def findS:List Sc→ByteArray→Bool→Int × Bool
 | [],_,b=>(-1,b)
 | c::l,s,b=>if hasB c.nms s then (c.own,b) else findS l s (b && !c.opn)
abbrev scObj (o:Int)(nv:Value)(op:Bool)(ov:Value):Obj:=.cells #[.int .i64 o,nv,.bool op,ov] 182 (0,0)
abbrev sPtr (b:Nat):Value:=.pointer (some ⟨b,0,none⟩)
def Chn (I:Nat→Prop)(w:World):Value→List Sc→Prop
 | v,[]=>v=.pointer none
 | v,c::l=>∃ b nv ov,v=sPtr b∧I b∧w.heap[b]? = some (scObj c.own nv c.opn ov)∧SRow 0 w nv c.nms∧(∀ g,nv.ownBlock=some g→I g)∧c.nms.length≤100000∧(∀ b',ov=sPtr b'→b'<b)∧Chn I w ov l
theorem Chn.later {I:Nat→Prop}{w w':World}(hs:Stay I w w'):∀ (l:List Sc) (v:Value),Chn I w v l→Chn I w' v l
 | [],_,h=>h
 | c::l,v,h=>by
  obtain⟨b,nv,ov,h1,h2,h3,h4,h5,h6,h7,h8⟩:=h;exact⟨b,nv,ov,h1,h2,by rw[hs b h2 (lt_of_heap h3)];exact h3,owns_stay hs h5 h4,h5,h6,h7,Chn.later hs l ov h8⟩
theorem Chn.mono {I J:Nat→Prop}{w:World}(hJ:∀ b,I b→b<w.heap.size→J b):∀ (l:List Sc) (v:Value),Chn I w v l→Chn J w v l
 | [],_,h=>h
 | c::l,v,h=>by
  obtain⟨b,nv,ov,h1,h2,h3,h4,h5,h6,h7,h8⟩:=h;exact⟨b,nv,ov,h1,hJ b h2 (lt_of_heap h3),h3,h4,fun g hg=>hJ g (h5 g hg) (own_lt h4 g hg).1,h6,h7,Chn.mono hJ l ov h8⟩
theorem Chn.form {I:Nat→Prop}{w:World}{l:List Sc}{v:Value}(h:Chn I w v l):v=.pointer none∨∃ b,v=sPtr b∧b<w.heap.size:=by
 cases l with
 | nil=>exact Or.inl h
 | cons c l=>
  obtain⟨b,nv,ov,h1,_,h3,_⟩:=h;exact Or.inr ⟨b,h1,lt_of_heap h3⟩
def blkOf:Value→Nat
 | .pointer (some a)=>a.block+1
 | _=>0
theorem find_any {I:Nat→Prop}(l:List Sc)(s:ByteArray)(v:Value)(w:World)(h:Chn I w v l) :
  Calls Tryz.prog 123 #[v,.string s] w fun e w'=>e=.returned (.tuple #[.int .i64 (findS l s true).1,.bool (findS l s true).2])∧w'=w:=by
 have HH:=hide h
 rcases h.form with hv|⟨b0,hv,_⟩ <;> subst hv <;> clear h
 all_goals
  go_enter Tryz.func123,Tryz.ntmps123;go_wp2_with fail
  go_loopw [0,5] (fun u x wr=>wr=w∧∃ (r:List Sc) (b:Bool),x=.bool b∧Chn I w u r∧findS r s b=findS l s true) (fun u _ _=>blkOf u)
  case atStart=>exact⟨rfl,l,true,rfl,HH.out,rfl⟩
  case round=>
   obtain⟨rfl,r,b,rfl,hch,heq⟩:=hrel
   cases r with
   | nil=>
    have hu:_=Value.pointer none:=hch;subst hu;have HEQ:=hide heq;clear hch heq;go_wp2_with fail
    exact bodyPost_ret (v:=.tuple #[.int .i64 (-1),.bool b]) (by simp[results,Tryz.results123,go_sem]) rfl ⟨by rw[←HEQ.out];rfl,rfl⟩
   | cons c r=>
    obtain⟨b1,nv,ov,rfl,hI,hb,hn,_,hl,hlow,hr⟩:=hch;have c0:wr.cell? ⟨b1,0,none⟩=some (.int .i64 c.own):=by rw[cell_of hb];rfl
    have c1:wr.cell? ⟨b1,1,none⟩=some nv:=by rw[cell_of hb];rfl
    have c2:wr.cell? ⟨b1,2,none⟩=some (.bool c.opn):=by rw[cell_of hb];rfl
    have c3:wr.cell? ⟨b1,3,none⟩=some ov:=by rw[cell_of hb];rfl
    have hbl:=lt_of_heap hb;have HC:=hide (contains_any c.nms s nv wr hn hl);obtain⟨na,nc,rfl⟩:=srow_form hn;have HEQ:=hide heq;have HR:=hide hr;have HLOW:=hide hlow;have hfm:=hr.form
    rw[findS] at HEQ
    generalize c.own=own at c0 HEQ
    generalize c.opn=opn at c2 HEQ
    clear hb hn hl hr hlow heq hI
    cases hh:hasB c.nms s with
    | true=>
     rw[hh] at HC HEQ;clear hh;go_wp2_with fail;refine cm HC.out ?_;rintro e w2 ⟨rfl,rfl⟩;clear HC;go_wp2_with fail
     exact bodyPost_ret (v:=.tuple #[.int .i64 own,.bool b]) (by simp[results,Tryz.results123,go_sem]) rfl ⟨by rw[←HEQ.out];rfl,rfl⟩
    | false=>
     rw[hh] at HC HEQ;clear hh;go_wp2_with fail;refine cm HC.out ?_;rintro e w2 ⟨rfl,rfl⟩;clear HC
     rcases hfm with hf|⟨b2,hf,_⟩ <;> subst hf <;> cases b
     all_goals
      go_wp2_with fail
      go_roundw
      case rel=>exact⟨trivial,r,_,rfl,HR.out,by simpa using HEQ.out⟩
      case measure=>first | (simp[blkOf];done) | (have h9:=unhide HLOW _ rfl;simp[blkOf];omega)
abbrev plV2 (v:Value)(st:Bool):Value:=.agg #[v,.bool st]
theorem in_any (oa:Option Addr)(st:Bool)(o:Int)(na:Option Addr)(nn nc:Nat)(op:Bool)(ox:Option Addr)(w:World) :
  Calls Tryz.prog 124 #[plV2 (.pointer oa) st,.agg #[.int .i64 o,.slice na nn nc,.bool op,.pointer ox]] w fun e w'=>
   (e=.returned (plV2 (sPtr (w.heap.size+1)) st)∧w'.heap[w.heap.size+1]? = some (scObj o (.slice na nn nc) op (.pointer oa)))∧Below w.heap.size w w':=by
 go_enter Tryz.func124,Tryz.ntmps124
 go_wp2_with fail
 have e1:(w.alloc (.cells #[sPtr (w.heap.size+1),.bool st] 112)).heap.size=w.heap.size+1:=by simp
 refine bodyPost_ret (v:=plV2 (sPtr (w.heap.size+1)) st) (by simp[results,Tryz.results124,go_sem]) rfl ⟨⟨rfl,?_⟩,(((Below.refl _ _).alloc (Nat.le_refl _) _).alloc (by simp) _).alloc (by simp;omega) _⟩
 rw[Below.heap_alloc _ _ _ (by simp)]
 have h:=heap_new (w.alloc (.cells #[sPtr (w.heap.size+1),.bool st] 112)) (scObj o (.slice na nn nc) op (.pointer oa))
 rw[e1] at h
 exact h
theorem wtexts_any {B:Nat}(ts:List Tr)(v:Value)(w:World)(h:NRow B w v ts)(hl:ts.length≤90000) :
  Calls Tryz.prog 125 #[v] w fun e w'=>(∃ u,e=.returned u∧SRow w.heap.size w' u (ts.map Tr.tx))∧Below w.heap.size w w':=by
 obtain⟨i0,hi0,hz0,hz1,hz2⟩:=info_parts info9
 obtain⟨va,vc,rfl⟩:=h.form
 have HR:=hide h
 clear h
 go_enter Tryz.func125,Tryz.ntmps125
 exact zbav
def bd1 (t:Tr):Bool:=t.kd==9||(t.kd==35&&evalsT t)
mutual
def badT:Tr→Bool
 | .mk kd tx n ks=>bd1 (.mk kd tx n ks)||badTs ks
def badTs:List Tr→Bool
 | []=>false
 | t::ts=>badT t||badTs ts
end
def bdF (b:Bool)(t:Ad):Bool × Bool:=(b||bd1 t.tr,true)
mutual
theorem bad_wk:∀ (t:Ad) (b:Bool),wk bdF b t=(b||badT t.tr)
 | .mk p kd tx n ks,b=>by
  rw[wk];simp only[bdF,if_true];have h1:=bads_wk ks (b||bd1 (Ad.mk p kd tx n ks).tr);rw[h1,Ad.tr,badT,Bool.or_assoc]
theorem bads_wk:∀ (ts:List Ad) (b:Bool),wks bdF b ts=(b||badTs (Ad.trs ts))
 | [],b=>by rw[wks,Ad.trs,badTs,Bool.or_false]
 | t::ts,b=>by rw[wks,bad_wk t,bads_wk ts,Ad.trs,badTs,Bool.or_assoc]
end
structure Bds (fb:Nat)(b:Bool)(w:World):Prop where
 found:w.heap[fb]? = some (.cells #[.bool b] 4 (0,0))
end Go.Proofs.YtoimgcjbcbhclaaGreatDoor
