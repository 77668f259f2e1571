/-
  Where the document's parser says that there is a program, the reader's grammar says the same.
-/
import Derived.Test.YtoimgcjbcbhclaaGreatDoorWt32
namespace Go.Proofs.YtoimgcjbcbhclaaGreatDoor
def Imp {α:Type}(r r':PR α):Prop:=∀ x j,r=.ok x j→r'=.ok x j∨r'=.out
theorem Imp.refl {α:Type}(r:PR α):Imp r r:=fun _ _ h=>Or.inl h
theorem Imp.out {α:Type}(r:PR α):Imp r .out:=fun _ _ _=>Or.inr rfl
theorem Imp.bad {α:Type}{r:PR α}{er:Int}{p:Nat}:Imp (.bad er p) r:=fun _ _ h=>by cases h
theorem Imp.bind {α β:Type}{r r':PR α}{f f':α→Nat→PR β}(h:Imp r r')(hf:∀ x j,Imp (f x j) (f' x j)):Imp (r.bind f) (r'.bind f'):=by
 intro x j e
 cases r with
 | ok y k=>
  rcases h y k rfl with h1|h1
  ·rw[h1];exact hf y k x j e
  ·rw[h1];exact Or.inr rfl
 | bad er p=>cases e
 | out=>cases e
theorem Imp.bind_r {α β:Type}{r:PR α}{f f':α→Nat→PR β}(hf:∀ x j,Imp (f x j) (f' x j)):Imp (r.bind f) (r.bind f'):=Imp.bind (Imp.refl r) hf
structure FImp (F G:Fns):Prop where
 st:∀ d i,Imp (F.st d i) (G.st d i)
 vl:∀ d i,Imp (F.vl d i) (G.vl d i)
 pr:∀ b d i,2≤b→b≤8→Imp (F.pr b d i) (G.pr b d i)
 sg:∀ d i,Imp (F.sg d i) (G.sg d i)
theorem bind_okE {α β:Type}{r:PR α}{f:α→Nat→PR β}{x:β}{j:Nat}(h:r.bind f=.ok x j):∃ y k,r=.ok y k∧f y k=.ok x j:=by
 cases r with
 | ok y k=>exact⟨y,k,rfl,h⟩
 | bad er p=>cases h
 | out=>cases h
section
variable {l:List Tk}
theorem deepP_imp {f g:Nat→Nat→PR Tr}{d i:Nat}(h:Imp (f (d+1) i) (g (d+1) i)):Imp (deepP l f d i) (deepP l g d i):=by
 unfold deepP
 split
 ·exact Imp.refl _
 ·exact h
theorem blockLoop_imp {F G:Fns}(h:FImp F G)(d:Nat):∀ n n' acc i,Imp (blockLoop l F d n acc i) (blockLoop l G d n' acc i):=by
 intro n
 induction n with
 | zero=>intro n' acc i x j e;cases e
 | succ n ih=>
  intro n' acc i
  cases n' with
  | zero=>exact Imp.out _
  | succ n'=>
   unfold blockLoop
   split
   ·exact Imp.refl _
   ·exact Imp.bind (deepP_imp (h.st _ _)) fun t i1=>ih n' _ i1
theorem blockP_imp {F G:Fns}(h:FImp F G)(d i:Nat):Imp (blockP l F d i) (blockP l G d i):=by
 unfold blockP
 exact Imp.bind_r fun _ i1=>Imp.bind (blockLoop_imp h d _ _ [] i1) fun ts i2=>Imp.refl _
theorem rlistLoop_imp {shut:ByteArray}{begins:Nat→Bool}{part part':Nat→PR Tr}(hp:∀ i,Imp (part i) (part' i)) :
  ∀ n n' acc i,acc.length≠0→∀ x j,rlistLoop l shut part n acc i=.ok x j →
   (if fx l i=shut then PR.ok acc (i+1) else (mustP l tComma i).bind fun _ i2=>listLoop l shut begins part' n' acc i2)=.ok x j ∨
   (if fx l i=shut then PR.ok acc (i+1) else (mustP l tComma i).bind fun _ i2=>listLoop l shut begins part' n' acc i2)=.out:=by
 intro n
 induction n with
 | zero=>intro n' acc i _ x j e;cases e
 | succ n ih=>
  intro n' acc i ha x j e;unfold rlistLoop at e
  split at e
  ·rename_i hf
   rw[if_pos hf];exact Or.inl e
  ·rename_i hf
   rw[if_neg hf];obtain⟨_,i1,e1,e2⟩:=bind_okE e;rw[e1]
   split at e2
   ·
    cases e2
   ·rename_i h8
    obtain⟨t,i2,e3,e4⟩:=bind_okE e2;change listLoop l shut begins part' n' acc i1=.ok x j∨listLoop l shut begins part' n' acc i1=.out
    cases n' with
    | zero=>exact Or.inr rfl
    | succ n'=>
     unfold listLoop;rw[if_neg (fun h=>h8 h.1)]
     rcases hp i1 t i2 e3 with h1|h1
     ·rw[h1];exact ih n' (acc++[t]) i2 (by simp) x j e4
     ·rw[h1];exact Or.inr rfl
theorem rlist_imp {opn shut:ByteArray}{begins:Nat→Bool}{part part':Nat→PR Tr}(hp:∀ i,Imp (part i) (part' i))(n n' i:Nat) :
  Imp ((mustP l opn i).bind fun _ i1=>rlistLoop l shut part n [] i1) (listP l opn shut begins part' n' i):=by
 unfold listP
 refine Imp.bind_r fun _ i1=>?_
 intro x j e
 cases n with
 | zero=>cases e
 | succ n=>
  unfold rlistLoop at e
  split at e
  ·rename_i hf
   rw[if_pos hf];exact Or.inl e
  ·rename_i hf
   rw[if_neg hf];rw[if_pos (by rfl)] at e;have e':(part i1).bind (fun t i2=>rlistLoop l shut part n ([]++[t]) i2)=.ok x j:=e;obtain⟨t,i2,e3,e4⟩:=bind_okE e'
   cases n' with
   | zero=>exact Or.inr rfl
   | succ n'=>
    unfold listLoop;rw[if_neg (fun h=>by cases h.1)]
    rcases hp i1 t i2 e3 with h1|h1
    ·rw[h1];exact rlistLoop_imp hp n n' ([]++[t]) i2 (by simp) x j e4
    ·rw[h1];exact Or.inr rfl
theorem bind_assocE {α β γ:Type}(r:PR α)(f:α→Nat→PR β)(g:β→Nat→PR γ):(r.bind f).bind g=r.bind fun x j=>(f x j).bind g:=by cases r <;> rfl
theorem rparamsP_imp {F G:Fns}(i:Nat):Imp (rparamsP l F i) (paramsP l G i):=by
 unfold rparamsP paramsP
 rw[←bind_assocE]
 exact Imp.bind (rlist_imp (fun _=>Imp.refl _) _ _ _) fun _ _=>Imp.refl _
section
variable {F G:Fns} (h:FImp F G)
include F G h
theorem propP_imp (d i:Nat):Imp (propP l F d i) (propP l G d i):=by
 unfold propP
 exact Imp.bind_r fun _ _=>Imp.bind_r fun _ i2=>Imp.bind (deepP_imp (h.vl _ _)) fun _ _=>Imp.refl _
theorem robjectP_imp (d i:Nat):Imp (robjectP l F d i) (objectP l G d i):=by
 unfold robjectP objectP
 rw[←bind_assocE]
 exact Imp.bind (rlist_imp (fun i=>propP_imp h d i) _ _ _) fun _ _=>Imp.refl _
theorem rfuncTail_imp (kd:Int)(s:ByteArray)(d i:Nat):Imp (rfuncTail l F kd s d i) (funcTail l G kd s d i):=by
 unfold rfuncTail funcTail
 exact Imp.bind (rparamsP_imp i) fun _ i1=>Imp.bind (blockP_imp h d i1) fun _ _=>Imp.refl _
theorem rlambdaP_imp (d i:Nat):Imp (rlambdaP l F d i) (lambdaP l G d i):=by
 unfold rlambdaP lambdaP
 refine Imp.bind_r fun _ i1=>?_
 split
 ·exact Imp.bind_r fun _ _=>rfuncTail_imp h _ _ _ _
 ·exact rfuncTail_imp h _ _ _ _
theorem rfuncP_imp (d i:Nat):Imp (rfuncP l F d i) (funcP l G d i):=by
 unfold rfuncP funcP
 exact Imp.bind_r fun _ i1=>Imp.bind_r fun _ _=>rfuncTail_imp h _ _ _ _
theorem inParP_imp (d i:Nat):Imp (inParP l F d i) (inParP l G d i):=by
 unfold inParP
 exact Imp.bind_r fun _ i1=>Imp.bind (deepP_imp (h.vl _ _)) fun _ _=>Imp.refl _
end
theorem fx_none {i:Nat}(h2:(tkA l i).kd≠2)(h5:(tkA l i).kd≠5):fx l i=noText:=by
 unfold fx
 rw[if_neg (by simp[h2,h5])]
theorem litK_sg {x:ByteArray}(h:0<litK x):∃ s,sgP 0 x=some s∧s.kd=litK x∧look2 vlKeys x=none:=by
 unfold litK look2 at h ⊢
 cases hf:lits.find? (fun e=>decide (x=e.1)) with
 | none=>rw[hf] at h;exact absurd h (by decide)
 | some e=>
  have h1:=List.find?_some hf;have h2:=List.mem_of_find?_eq_some hf;have hx:x=e.1:=by simpa using h1
  have key:∀ e ∈ lits,∃ s,sgP 0 e.1=some s∧s.kd=e.2∧(vlKeys.find? (fun y=>decide (e.1=y.1))).map (·.2)=none:=by
   intro e he
   rcases List.mem_cons.1 he with rfl|he
   ·exact⟨_,rfl,rfl,rfl⟩
   rcases List.mem_cons.1 he with rfl|he
   ·exact⟨_,rfl,rfl,rfl⟩
   rcases List.mem_cons.1 he with rfl|he
   ·exact⟨_,rfl,rfl,rfl⟩
   rcases List.mem_cons.1 he with rfl|he
   ·exact⟨_,rfl,rfl,rfl⟩
   cases he
  obtain⟨s,k1,k2,k3⟩:=key e h2;exact⟨s,by rw[hx];exact k1,by simpa using k2,by rw[hx];exact k3⟩
theorem raloneP_imp {F G:Fns}(h:FImp F G)(d i:Nat):Imp (raloneP l F d i) (aloneP l G d i):=by
 have kn:look2 vlKeys noText=none:=by decide +kernel
 have sn:sgP 0 noText=none:=by decide +kernel
 unfold raloneP
 split
 ·rename_i hk
  have hf:=fx_none (l:=l) (i:=i) (by rw[hk];decide) (by rw[hk];decide)
  unfold aloneP;rw[hf,kn,sn];simp only;rw[if_pos hk];exact Imp.refl _
 ·rename_i h1
  split
  ·rename_i hk
   have hf:=fx_none (l:=l) (i:=i) (by rw[hk];decide) (by rw[hk];decide)
   unfold aloneP;rw[hf,kn,sn];simp only;rw[if_neg h1,if_neg (by rw[hk];decide),if_pos hk]
   exact Imp.refl _
  ·split
   ·rename_i h3 hk
    have hf:=fx_none (l:=l) (i:=i) (by rw[hk];decide) (by rw[hk];decide)
    unfold aloneP;rw[hf,kn,sn];simp only;rw[if_neg h1,if_pos hk];exact Imp.refl _
   ·split
    ·rename_i hf
     have k0:look2 vlKeys tOpen=some 0:=by decide +kernel
     unfold aloneP;rw[hf,k0];exact inParP_imp h d i
    ·split
     ·rename_i hf
      have k0:look2 vlKeys tFunction=some 2:=by decide +kernel
      unfold aloneP;rw[hf,k0];exact rlambdaP_imp h d i
     ·split
      ·rename_i hf
       have k0:look2 vlKeys tLBrace=some 1:=by decide +kernel
       unfold aloneP;rw[hf,k0];exact robjectP_imp h d i
      ·split
       ·rename_i hk
        have hf:fx l i=(tkA l i).tx:=by unfold fx;rw[if_pos (by simp[hk.1])]
        obtain⟨s,k1,k2,k3⟩:=litK_sg hk.2;unfold aloneP;rw[hf,k3,k1];simp only;rw[k2];exact Imp.refl _
       ·exact Imp.bad
theorem raskedLoop_imp {F G:Fns}(h:FImp F G)(d:Nat):∀ n n' t i,Imp (raskedLoop l F d n t i) (askedLoop l G d n' t i):=by
 intro n
 induction n with
 | zero=>intro n' t i x j e;cases e
 | succ n ih=>
  intro n' t i
  cases n' with
  | zero=>exact Imp.out _
  | succ n'=>
   unfold raskedLoop askedLoop
   split
   ·exact Imp.bind_r fun _ _=>ih n' _ _
   ·split
    ·rename_i hf
     have hm:mustP l tOpen i=.ok () (i+1):=by unfold mustP;rw[if_pos hf]
     have hr:rargsP l F d (i+1)=(mustP l tOpen i).bind fun _ i1=>rlistLoop l tShut (argP l F d) F.fuel [] i1:=by rw[hm];rfl
     rw[hr];exact Imp.bind (rlist_imp (fun i=>deepP_imp (h.vl _ _)) _ _ _) fun _ _=>ih n' _ _
    ·exact Imp.refl _
section
variable {F G:Fns} (h:FImp F G) (d i:Nat)
include F G h d i
theorem raskedP_imp:Imp (raskedP l F d i) (askedP l G d i):=by
 unfold raskedP askedP
 exact Imp.bind (raloneP_imp h d i) fun t i1=>raskedLoop_imp h d _ _ t i1
theorem rsingleP_imp:Imp (rsingleP l F d i) (singleP l G d i):=by
 unfold rsingleP singleP
 cases sgP 1 (fx l i) with
 | some s=>exact Imp.bind (deepP_imp (h.sg _ _)) fun _ _=>Imp.refl _
 | none=>exact raskedP_imp h d i
theorem valueP_imp:Imp (valueP l F d i) (valueP l G d i):=by
 unfold valueP
 refine Imp.bind (h.pr 2 d i (by decide) (by decide)) fun t i1=>?_
 split
 ·exact zbfy
 ·exact Imp.refl _
theorem exprP_imp:Imp (exprP l F d i) (exprP l G d i):=by
 unfold exprP
 exact Imp.bind (deepP_imp (h.vl _ _)) fun _ _=>Imp.refl _
theorem declP_imp:Imp (declP l F d i) (declP l G d i):=by
 unfold declP
 refine Imp.bind_r fun s i1=>?_
 split
 ·exact Imp.refl _
 ·exact zbfy
theorem behindP_imp:Imp (behindP l F d i) (behindP l G d i):=by
 unfold behindP
 exact Imp.bind (inParP_imp h d _) fun _ _=>Imp.bind (deepP_imp (h.st _ _)) fun _ _=>Imp.refl _
theorem choiceP_imp:Imp (choiceP l F d i) (choiceP l G d i):=by
 unfold choiceP
 refine Imp.bind (inParP_imp h d _) fun _ _=>Imp.bind (deepP_imp (h.st _ _)) fun _ _=>?_
 split
 ·exact Imp.bind (deepP_imp (h.st _ _)) fun _ _=>Imp.refl _
 ·exact Imp.refl _
theorem givingP_imp:Imp (givingP l F d i) (givingP l G d i):=by
 unfold givingP
 exact zbfy
theorem catchP_imp:Imp (catchP l F d i) (catchP l G d i):=by
 unfold catchP
 split
 ·exact Imp.bind_r fun _ _=>Imp.bind_r fun _ _=>Imp.bind_r fun _ _=>Imp.bind (blockP_imp h d _) fun _ _=>Imp.refl _
 ·exact Imp.refl _
theorem finallyP_imp:Imp (finallyP l F d i) (finallyP l G d i):=by
 unfold finallyP
 split
 ·exact Imp.bind (blockP_imp h d _) fun _ _=>Imp.refl _
 ·exact Imp.refl _
theorem attemptP_imp:Imp (attemptP l F d i) (attemptP l G d i):=by
 unfold attemptP
 exact Imp.bind_r fun _ _=>Imp.bind (blockP_imp h d _) fun _ _=>Imp.bind (catchP_imp h d _) fun _ _=>Imp.bind (finallyP_imp h d _) fun _ _=>Imp.refl _
theorem rstatementP_imp:Imp (rstatementP l F d i) (statementP l G d i):=by
 unfold rstatementP statementP
 cases look2 stKeys (fx l i) with
 | none=>exact exprP_imp h d i
 | some q=>
  show Imp (rpartP l F d q i) (partP l G d q i)
  match q with
  | 0=>exact declP_imp h d i
  | 1=>exact rfuncP_imp h d i
  | 2=>exact blockP_imp h d i
  | 3=>exact Imp.refl _
  | 4=>exact choiceP_imp h d i
  | 5=>exact behindP_imp h d i
  | 6=>exact givingP_imp h d i
  | _+7=>exact attemptP_imp h d i
end
def NoSg (l:List Tk):Prop:=∀ i,(tkA l i).kd=2→sgP 2 (tkA l i).tx=none
def EndAt (l:List Tk)(b:Int)(j:Nat):Prop:=∀ s,sgP 2 (fx l j)=some s→s.str<b
def lvAt (b:Nat):ByteArray:=lvls.getD (b - 2) noText
theorem sgP2_mem {x:ByteArray}{s:Sg}(h:sgP 2 x=some s):s ∈ sgs∧s.parts=2∧x=s.tx:=by
 unfold sgP at h
 rw[Option.filter_eq_some_iff] at h
 obtain⟨h1,h2⟩:=h
 unfold sgOf at h1
 exact⟨List.mem_of_find?_eq_some h1,by simpa using h2,by simpa using List.find?_some h1⟩
theorem fits_sg:∀ b,2≤b→b≤7→∀ x,x≠tPM→fitsB (lvAt b) x=true→∃ s,sgP 2 x=some s∧s.str=(b:Int)∧s.kd=opK x:=by
 intro b h1 h2 x hx h
 have hb:b=2∨b=3∨b=4∨b=5∨b=6∨b=7:=by omega
 unfold fitsB at h
 rcases hb with rfl|rfl|rfl|rfl|rfl|rfl
 ·have:x=tOr:=by have h':(decide (x=tOr)||false)=true:=h;simpa using h'
  subst this;exact⟨_,rfl,rfl,rfl⟩
 ·have:x=tAnd:=by have h':(decide (x=tAnd)||false)=true:=h;simpa using h'
  subst this;exact⟨_,rfl,rfl,rfl⟩
 ·have:x=tSame:=by have h':(decide (x=tSame)||false)=true:=h;simpa using h'
  subst this;exact⟨_,rfl,rfl,rfl⟩
 ·have:x=tLess:=by have h':(decide (x=tLess)||false)=true:=h;simpa using h'
  subst this;exact⟨_,rfl,rfl,rfl⟩
 ·have h':(decide (x=tPM)||(true&&(decide (x=tAdd)||decide (x=tSub))))=true:=h;simp only[Bool.true_and,Bool.or_eq_true,decide_eq_true_eq] at h'
  rcases h' with h' | h' | h'
  ·exact absurd h' hx
  all_goals
   subst h';exact⟨_,rfl,rfl,rfl⟩
 ·have:x=tMul:=by have h':(decide (x=tMul)||false)=true:=h;simpa using h'
  subst this;exact⟨_,rfl,rfl,rfl⟩
theorem sg_fits {x:ByteArray}{s:Sg}(h:sgP 2 x=some s):2≤s.str∧s.str≤7∧fitsB (lvAt s.str.toNat) x=true:=by
 obtain⟨h1,h2,h3⟩:=sgP2_mem h
 have key:∀ s ∈ sgs,s.parts=2→2≤s.str∧s.str≤7∧fitsB (lvAt s.str.toNat) s.tx=true:=by decide +kernel
 rw[h3]
 exact key s h1 h2
def NoPM (l:List Tk):Prop:=∀ i,(tkA l i).kd=5→(tkA l i).tx≠tPM
def Reach (l:List Tk)(G:Fns)(d:Nat)(b:Int)(t:Tr)(i:Nat)(x:Tr)(j:Nat):Prop:=
 ∀ n,(∃ m,pairLoop l G b d n t i=pairLoop l G b d m x j)∨pairLoop l G b d n t i=.out
section
variable {G:Fns} {d:Nat} {b:Int}
include G d b
theorem Reach.refl (t:Tr)(i:Nat):Reach l G d b t i t i:=fun n=>Or.inl ⟨n,rfl⟩
theorem Reach.trans {t x y:Tr}{i j k:Nat}(h:Reach l G d b t i x j)(h2:Reach l G d b x j y k):Reach l G d b t i y k:=by
 intro n
 rcases h n with ⟨m,e⟩|e
 ·rw[e];exact h2 m
 ·exact Or.inr e
theorem Reach.step {t u:Tr}{i j:Nat}{s:Sg}(hs:sgP 2 (fx l i)=some s)(hb:b≤s.str)(hu:G.pr (s.str+1) d (i+1)=.ok u j):Reach l G d b t i (.mk s.kd noText 0 [t,u]) j:=by
 intro n
 cases n with
 | zero=>exact Or.inr rfl
 | succ n=>
  refine Or.inl ⟨n,?_⟩
  conv=>lhs;unfold pairLoop
  rw[hs];simp only;rw[if_neg (by omega),hu];rfl
theorem Reach.stuck {t:Tr}{i:Nat}{s:Sg}(hs:sgP 2 (fx l i)=some s)(hb:b≤s.str)(hu:G.pr (s.str+1) d (i+1)=.out)(x:Tr)(j:Nat):Reach l G d b t i x j:=by
 intro n
 refine Or.inr ?_
 cases n with
 | zero=>rfl
 | succ n=>
  unfold pairLoop;rw[hs];simp only;rw[if_neg (by omega),hu];rfl
end
variable (hN:NoSg l) (hPM:NoPM l)
include hN hPM
theorem fits_iff {i b:Nat}(h1:2≤b)(h2:b≤7):(∃ s,sgP 2 (fx l i)=some s∧s.str=(b:Int)∧s.kd=opK (tkA l i).tx)↔((tkA l i).kd=5∧fitsB (lvAt b) (tkA l i).tx=true):=by
 constructor
 ·rintro⟨s,hs,hb,hk⟩;have hne:fx l i≠noText:=by
   intro e;rw[e] at hs;have:sgP 2 noText=none:=by decide +kernel
   rw[this] at hs;cases hs
  have hk2:(tkA l i).kd=2∨(tkA l i).kd=5:=by
   by_cases h:(tkA l i).kd=2∨(tkA l i).kd=5
   ·exact h
   ·exact absurd (fx_none (fun e=>h (Or.inl e)) (fun e=>h (Or.inr e))) hne
  have hf:fx l i=(tkA l i).tx:=by unfold fx;rw[if_pos (by simpa using hk2)]
  rw[hf] at hs
  rcases hk2 with h|h
  ·rw[hN i h] at hs;cases hs
  ·refine⟨h,?_⟩;have:=(sg_fits hs).2.2;rw[hb] at this;simpa using this
 ·rintro⟨h5,hf⟩;have he:fx l i=(tkA l i).tx:=by unfold fx;rw[if_pos (by simp[h5])]
  rw[he];exact fits_sg b h1 h2 _ (hPM i h5) hf
theorem rpairLoop_reach {G:Fns}{d b:Nat}{sub:Nat→PR Tr}(h1:2≤b)(h2:b≤7)(hp:∀ i,Imp (sub i) (G.pr ((b:Int)+1) d i))(he:∀ i u j,sub i=.ok u j→EndAt l ((b:Int)+1) j) :
  ∀ n t i,EndAt l ((b:Int)+1) i→∀ x j,rpairLoop l sub (lvAt b) n t i=.ok x j→(∀ b':Int,b'≤(b:Int)→Reach l G d b' t i x j)∧EndAt l (b:Int) j:=by
 intro n
 induction n with
 | zero=>intro t i _ x j e;cases e
 | succ n ih=>
  intro t i hE x j e;unfold rpairLoop at e
  split at e
  ·rename_i hf
   obtain⟨s,hs,hsb,hsk⟩:=(fits_iff hN hPM h1 h2).2 hf;obtain⟨u,i1,e1,e2⟩:=bind_okE e;have hE1:=he _ _ _ e1;rw[←hsk] at e2;obtain⟨r1,r2⟩:=ih _ i1 hE1 x j e2;refine⟨fun b' hb'=>?_,r2⟩
   rcases hp _ _ _ e1 with hu|hu
   ·rw[←hsb] at hu;exact(Reach.step hs (by omega) hu).trans (r1 b' hb')
   ·rw[←hsb] at hu;exact Reach.stuck hs (by omega) hu x j
  ·rename_i hf
   cases e;refine⟨fun b' _=>Reach.refl _ _,fun s hs=>?_⟩;have h3:=hE s hs
   by_cases hsb:s.str=(b:Int)
   ·exfalso;refine hf ((fits_iff hN hPM h1 h2).1 ⟨s,hs,hsb,?_⟩);have hne:fx l i≠noText:=by
     intro e;rw[e] at hs;have:sgP 2 noText=none:=by decide +kernel
     rw[this] at hs;cases hs
    have hfx:fx l i=(tkA l i).tx:=by
     unfold fx at hne ⊢
     split
     ·rfl
     ·rename_i hc;rw[if_neg hc] at hne;exact absurd rfl hne
    obtain⟨m1,m2,m3⟩:=sgP2_mem hs;have key:∀ s ∈ sgs,s.parts=2→s.kd=opK s.tx:=by decide +kernel
    rw[←hfx,m3];exact key s m1 m2
   ·omega
section
variable {F G:Fns} {d:Nat} (hs:∀ i,Imp (F.sg d i) (G.sg d i)) (hp:∀ (b:Nat) i,3≤b→b≤8→Imp (rpairs l F d (lvls.drop (b - 2)) i) (G.pr (b:Int) d i))
include F G d hs hp
theorem rpairs_reach :
  ∀ c b,b+c=8→2≤b→∀ i x j,rpairs l F d (lvls.drop (b - 2)) i=.ok x j →
   (∀ b':Int,b'≤(b:Int)→∀ n,(∃ m,(G.sg d i).bind (fun t i1=>pairLoop l G b' d n t i1)=pairLoop l G b' d m x j)∨(G.sg d i).bind (fun t i1=>pairLoop l G b' d n t i1)=.out)∧EndAt l (b:Int) j:=by
 intro c
 induction c with
 | zero=>
  intro b hb h2 i x j e;have hb8:b=8:=by omega
  subst hb8;have e':F.sg d i=.ok x j:=e;refine⟨fun b' _ n=>?_,fun s h=>?_⟩
  ·rcases hs i x j e' with h|h
   ·rw[h];exact Or.inl ⟨n,rfl⟩
   ·rw[h];exact Or.inr rfl
  ·have:=(sg_fits h).2.1;omega
 | succ c ih=>
  intro b hb h2 i x j e;have hlv:lvls.drop (b - 2)=lvAt b::lvls.drop (b+1 - 2):=by
   have hb':b=2∨b=3∨b=4∨b=5∨b=6∨b=7:=by omega
   rcases hb' with rfl|rfl|rfl|rfl|rfl|rfl <;> rfl
  rw[hlv] at e;unfold rpairs at e;obtain⟨t,i1,e1,e2⟩:=bind_okE e;obtain⟨r1,r2⟩:=ih (b+1) (by omega) (by omega) i t i1 e1;have hcast:(((b+1:Nat)):Int)=(b:Int)+1:=by omega
  rw[hcast] at r1 r2;obtain⟨q1,q2⟩:=rpairLoop_reach hN hPM (G:=G) (d:=d) h2 (by omega) (fun i2=>by have:=hp (b+1) i2 (by omega) (by omega);rw[hcast] at this;exact this)
   (fun i2 u j2 e3=>by have:=(ih (b+1) (by omega) (by omega) i2 u j2 e3).2;rw[hcast] at this;exact this) _ t i1 r2 x j e2
  refine⟨fun b' hb' n=>?_,q2⟩
  rcases r1 b' (by omega) n with ⟨m,em⟩|em
  ·rw[em];exact q1 b' hb' m
  ·exact Or.inr em
theorem rpr_imp (b:Int)(h2:2≤b)(h8:b≤8)(i:Nat) :
  Imp (rpr l F b d i) (pairP l G b d i):=by
 intro x j e
 obtain⟨b,rfl⟩:=Int.eq_ofNat_of_zero_le (a:=b) (by omega)
 have e':rpairs l F d (lvls.drop (b - 2)) i=.ok x j:=by
  unfold rpr at e;rw[show ((b:Int) - 2).toNat=b - 2 by omega] at e;exact e
 obtain⟨r1,r2⟩:=rpairs_reach hN hPM hs hp (8 - b) b (by omega) (by omega) i x j e'
 unfold pairP
 rcases r1 (b:Int) (Int.le_refl _) G.fuel with ⟨m,em⟩|em
 ·rw[em]
  cases m with
  | zero=>exact Or.inr rfl
  | succ m=>
   unfold pairLoop
   cases hsg:sgP 2 (fx l j) with
   | none=>exact Or.inl rfl
   | some s=>
    simp only;rw[if_pos (r2 s hsg)];exact Or.inl rfl
 ·exact Or.inr em
end
theorem rfns_imp:∀ k' k,FImp (rfns l k) (fns l k'):=by
 intro k'
 induction k' with
 | zero=>intro k;exact⟨fun _ _=>Imp.out _,fun _ _=>Imp.out _,fun _ _ _ _ _=>Imp.out _,fun _ _=>Imp.out _⟩
 | succ k' ih=>
  intro k
  cases k with
  | zero=>exact⟨fun _ _ _ _ h=>(by cases h),fun _ _ _ _ h=>(by cases h),fun _ _ _ _ _ _ _ h=>(by cases h),fun _ _ _ _ h=>(by cases h)⟩
  | succ k=>
   have h:=ih k;refine⟨fun d i=>rstatementP_imp h d i,fun d i=>valueP_imp h d i,fun b d i h2 h8=>?_,fun d i=>rsingleP_imp h d i⟩;refine rpr_imp hN hPM (fun i=>h.sg d i) (fun b i h3 h8=>?_) b h2 h8 i
   have:=(ih (k+1)).pr (b:Int) d i (by omega) (by omega);have e:(rfns l (k+1)).pr (b:Int) d i=rpairs l (rfns l k) d (lvls.drop (b - 2)) i:=by
    show rpr l (rfns l k) (b:Int) d i=_
    unfold rpr;rw[show ((b:Int) - 2).toNat=b - 2 by omega]
   rw[e] at this;exact this
theorem rprog_imp (k k':Nat):Imp (progP l (rfns l k)) (progP l (fns l k')):=by
 have h:=rfns_imp hN hPM k' k
 have loop:∀ n n' acc i,Imp (progLoop l (rfns l k) n acc i) (progLoop l (fns l k') n' acc i):=by
  intro n
  induction n with
  | zero=>intro n' acc i x j e;cases e
  | succ n ih=>
   intro n' acc i
   cases n' with
   | zero=>exact Imp.out _
   | succ n'=>
    unfold progLoop
    split
    ·exact Imp.refl _
    ·exact Imp.bind (deepP_imp (h.st _ _)) fun t i1=>ih n' _ i1
 unfold progP
 exact Imp.bind (loop _ _ [] 0) fun _ _=>Imp.refl _
end
end Go.Proofs.YtoimgcjbcbhclaaGreatDoor
set_option maxRecDepth 100000
set_option maxHeartbeats 16000000
namespace Go.Proofs.YtoimgcjbcbhclaaGreatDoor
open Go.RowKit
abbrev F25:Obj:=.cells #[.int .i64 0,.int .i64 0] 86
theorem infoRT:(Tryz.prog.info? 167).map (fun i=>(i.zero,i.size,i.bytes))=some (some noTok,4,40):=by kernel_rfl
theorem own_below {E:TypeId}{wr w3:World}{B:Nat}{v:Value}{n:Nat}{xs:List Value}(hb:Below wr.heap.size wr w3)(h:wr.ownsRow B E 4 v n xs):w3.ownsRow B E 4 v n xs:=by
 exact zbfj
theorem own_base {E:TypeId}{w:World}{B B':Nat}{v:Value}{n:Nat}{xs:List Value}(hb:B'≤B)(h:w.ownsRow B E 4 v n xs):w.ownsRow B' E 4 v n xs:=by
 exact zbgi
theorem own_grown {E:TypeId}{B:Nat}{W0 wx w1:World}{v:Value}{n:Nat}{xs:List Value}(hB:Below B W0 wx)(hsz:B≤wx.heap.size)(hown:wx.ownsRow B E 4 v n xs)(hg:wx.grownBy w1 v.ownBlock) :
  Below B W0 w1:=hB.grown hg hsz (fun k hk=>by
  obtain⟨_,⟨rfl,_⟩|⟨g,cap,cur,rfl,hge,_⟩⟩:=hown
  ·simp[Value.ownBlock] at hk
  ·simp[Value.ownBlock] at hk;omega)
structure RInv (w:World)(acc:List Tk)(v:Value)(wr:World):Prop where
 own:wr.ownsRow (w.heap.size+1) 167 4 v acc.length (tksCells acc)
 bel:Below (w.heap.size+1) (w.alloc F25) wr
theorem RInv.size {w:World}{acc:List Tk}{v:Value}{wr:World}(h:RInv w acc v wr):w.heap.size+1≤wr.heap.size:=by
 have:=h.bel.size;simp at this;exact this
theorem RInv.app {w:World}{acc:List Tk}{v v':Value}{wr w1:World}{t:Tk}(h:RInv w acc v wr)(o:Obj)(hown':w1.ownsRow (w.heap.size+1) 167 4 v' (acc.length+1) (tksCells acc++tkCells t))
  (hg:(wr.alloc o).grownBy w1 v.ownBlock):RInv w (acc++[t]) v' w1:=by
 have hz:=h.size
 exact⟨by rw[tksCells_snoc,List.length_append];exact hown',own_grown (h.bel.alloc hz o) (by simp;omega) (h.own.alloc o) hg⟩
def UPost (r:TR)(w:World)(e:Ending)(w':World):Prop:=
 match r with
 | .ok l=>∃ v,e=.returned (.tuple #[v,.agg #[.int .i64 0,.int .i64 (-1)]])∧w'.ownsRow w.heap.size 167 4 v l.length (tksCells l)∧Below w.heap.size w w'
 | .bad er p=>e=.returned (.tuple #[.slice none 0 0,.agg #[.int .i64 er,.int .i64 (p:Int)]])∧Below w.heap.size w w'
section
variable {w:World} {acc:List Tk} {v:Value}
include w acc v
theorem RInv.out {wr:World}(h:RInv w acc v wr)(v0 v1:Value) :
  Below w.heap.size w ((wr.setCell ⟨w.heap.size,0,none⟩ v0).setCell ⟨w.heap.size,1,none⟩ v1):=by
 have b0:Below w.heap.size w (w.alloc F25):=(Below.refl _ _).alloc (Nat.le_refl _) _
 exact((b0.trans (h.bel.mono (by omega))).setCell (Nat.le_refl _) _).setCell (Nat.le_refl _) _
theorem RInv.cells {wr:World}(h:RInv w acc v wr) :
  wr.cell? ⟨w.heap.size,0,none⟩=some (.int .i64 0)∧wr.cell? ⟨w.heap.size,1,none⟩=some (.int .i64 0)∧wr.frozen? ⟨w.heap.size,0,none⟩=false∧wr.frozen? ⟨w.heap.size,1,none⟩=false:=by
 have c:=fun o=>h.bel.cell (p:=⟨w.heap.size,o,none⟩) (by simp)
 have f:=fun o=>h.bel.frozen (p:=⟨w.heap.size,o,none⟩) (by simp)
 refine⟨?_,?_,?_,?_⟩
 ·rw[c];simp
 ·rw[c];simp
 all_goals
  rw[f];simp
theorem RInv.later {wr w3:World}(h:RInv w acc v wr)(hb:Below wr.heap.size wr w3):RInv w acc v w3:=
 ⟨own_below hb h.own,h.bel.trans (hb.mono h.size)⟩
end
structure RefLists (ws:List ByteArray)(w:World):Prop where
 lw:ws.length=19
 hw:∃ a cap,w.cell? ⟨4,0,none⟩=some (.slice (some a) 19 cap)∧∀ i,i<ws.length→w.cell? (a.add i)=some (.string (ws.getD i ByteArray.empty))
 f0:w.cell? ⟨1,0,none⟩=some (.int .i64 0)
 f1:w.cell? ⟨1,1,none⟩=some (.int .i64 (-1))
theorem lt_of_cell' {w:World}{a:Addr}{v:Value}(h:w.cell? a=some v):a.block<w.heap.size:=by
 unfold World.cell? at h
 by_cases hb:a.block<w.heap.size
 ·exact hb
 ·rw[Array.getElem?_eq_none (by omega)] at h;simp at h
section
variable {ws:List ByteArray}
include ws
theorem RefLists.later {w w':World}(h:RefLists ws w)(hb:Below w.heap.size w w'):RefLists ws w':=by
 obtain⟨a,cap,h2,h3⟩:=h.hw
 exact⟨h.lw,⟨a,cap,by rw[hb.cell (lt_of_cell' h2)];exact h2,fun i hi=>by rw[hb.cell (lt_of_cell' (h3 i hi))];exact h3 i hi⟩,by rw[hb.cell (lt_of_cell' h.f0)];exact h.f0,by rw[hb.cell (lt_of_cell' h.f1)];exact h.f1⟩
theorem RefLists.word {w:World}(h:RefLists ws w)(s:ByteArray):Calls Tryz.prog 135 #[.string s] w fun e w'=>e=.returned (.bool (isIn ws s))∧w'=w:=by
 obtain⟨a,cap,h2,h3⟩:=h.hw
 exact refIsWord_any a cap ws s w h.lw h2 h3
theorem RInv.lists {w:World}{acc:List Tk}{v:Value}{wr:World}(h:RInv w acc v wr)(hL:RefLists ws w):RefLists ws wr:=by
 have b0:Below w.heap.size w (w.alloc F25):=(Below.refl _ _).alloc (Nat.le_refl _) _
 exact hL.later (b0.trans (h.bel.mono (by omega)))
end
def firstLoop:Code→Option Code
 | .loop c=>some c
 | .seq a b=>match firstLoop a with
  | some c=>some c
  | none=>firstLoop b
 | .block _ c=>firstLoop c
 | .scope c=>firstLoop c
 | .cond _ a b=>match firstLoop a with
  | some c=>some c
  | none=>firstLoop b
 | _=>none
noncomputable def body6:Code:=((Tryz.f109.body.bind firstLoop).getD .skip)
def fr (s:ByteArray)(H:Nat)(v i:Value)(f:Nat→Value):Act:=⟨#[.string s,undef,f 2,.pointer (some ⟨H,0,none⟩),v,i,f 6,f 7,f 8,f 9,f 10,f 11,f 12,f 13,undef,f 15,.string s,.int .i64 (s.size:Int),.bool (decide (3000<(s.size:Int))),undef,f 20,f 21,f 22,f 23,f 24,f 25,f 26,f 27,f 28,f 29,f 30,f 31,f 32,f 33,f 34,f 35,f 36,f 37,f 38,f 39,f 40,f 41,f 42,f 43,f 44,f 45,f 46,f 47,f 48,f 49,f 50,f 51,f 52,f 53,f 54,f 55,f 56,f 57,f 58,f 59,f 60,f 61,f 62,f 63,f 64,f 65,f 66,f 67,f 68,f 69,f 70,f 71,f 72,f 73,f 74,f 75,f 76,f 77,f 78,f 79,f 80,f 81,f 82,f 83,f 84,f 85,f 86,f 87,f 88,f 89,f 90,f 91,f 92,f 93,f 94,f 95,f 96,f 97,f 98,f 99,f 100,f 101,f 102,f 103,f 104,f 105,f 106,f 107,f 108,f 109,f 110,f 111,f 112,f 113,f 114,f 115,f 116,f 117,f 118,f 119,f 120,f 121,f 122,f 123,f 124,f 125,f 126,f 127,f 128,f 129,f 130,f 131,f 132,f 133,f 134,f 135,f 136,f 137,f 138,f 139,f 140,f 141,f 142,f 143,f 144,f 145,f 146,f 147,f 148,f 149,f 150,f 151,f 152,f 153,f 154,f 155,f 156,f 157,f 158,f 159,f 160,f 161,f 162,f 163,f 164,f 165,f 166,f 167,f 168,f 169,f 170,f 171,f 172,f 173,f 174,f 175,f 176,f 177,f 178,f 179,f 180,f 181,f 182,f 183,f 184,f 185,f 186,f 187,f 188,f 189,f 190,f 191,f 192,f 193,f 194,f 195,f 196,f 197,f 198,f 199,f 200,f 201,f 202,f 203,f 204,f 205,f 206,f 207,f 208,f 209,f 210,f 211,f 212,f 213,f 214,f 215,f 216,f 217,f 218,f 219,f 220,f 221,f 222,f 223,f 224,f 225,f 226,f 227,f 228,f 229,f 230,f 231,f 232,f 233,f 234,f 235,undef,undef,undef,undef,undef,undef,undef],[]⟩
def mu6 (s:ByteArray)(a:Act)(_w:World):Nat:=s.size - (intOf (a.tmps.getD 5 undef)).toNat
def WI (ws:List ByteArray)(s:ByteArray)(w:World)(r:TR)(a:Act)(wr:World):Prop:=
 ∃ (j:Nat) (acc:List Tk) (v:Value) (f:Nat→Value),j≤s.size∧acc.length≤j∧toksR ws signsS s (pastN gapB s j) acc=r∧RInv w acc v wr∧a=fr s w.heap.size v (.int .i64 (j:Int)) f
theorem WI_mk {ws:List ByteArray}{s:ByteArray}{w:World}{r:TR}{a:Act}{wr:World}(j:Nat)(acc:List Tk)(v:Value)(h1:j≤s.size)(h2:acc.length≤j)(h3:toksR ws signsS s (pastN gapB s j) acc=r)(h4:RInv w acc v wr)
  (h5:a=fr s w.heap.size v (.int .i64 (j:Int)) (fun k=>a.tmps.getD k undef)):WI ws s w r a wr:=⟨j,acc,v,_,h1,h2,h3,h4,h5⟩
abbrev Q6 (ws:List ByteArray)(s:ByteArray)(w:World)(r:TR)(K:Act→World→Prop)(n:Nat):Exit→Act→World→Prop:=
 Exit.then (fun a' w''=>WI ws s w r a' w''∧mu6 s a' w''<n) (Exit.inBlock 0 (Exit.then K (bodyPost Tryz.prog Tryz.f109 (UPost r w))))
section
variable (ws:List ByteArray) (s:ByteArray) (w wr:World) (r:TR) (K:Act→World→Prop) (f:Nat→Value) (v:Value) (j:Nat) (acc:List Tk) (hs:s.size≤3000) (hlt:j<s.size) (hal:acc.length≤j) (hL:RefLists ws w) (he:toksR ws signsS s (pastN gapB s j) acc=r) (hinv:RInv w acc v wr) (hgap:gapB (s[j].toNat:Int)=true)
include ws s w wr r K f v j acc hs hlt hal hL he hinv hgap
theorem way_gap1 (g1:(((s[j].toNat:Nat):Int)==32)=true) :
  Code.wp Tryz.prog body6 (Q6 ws s w r K (s.size - j)) (fr s w.heap.size v (.int .i64 (j:Int)) f) wr:=by
 exact zbea
theorem way_gap2 (g1:(((s[j].toNat:Nat):Int)==32)=false)(g2:(((s[j].toNat:Nat):Int)==10)=true) :
  Code.wp Tryz.prog body6 (Q6 ws s w r K (s.size - j)) (fr s w.heap.size v (.int .i64 (j:Int)) f) wr:=by
 exact zbea
end
section
variable (ws:List ByteArray) (s:ByteArray) (w wr:World) (r:TR) (K:Act→World→Prop) (f:Nat→Value) (v:Value) (j:Nat) (acc:List Tk) (hs:s.size≤3000) (hlt:j<s.size) (hal:acc.length≤j) (hL:RefLists ws w) (he:toksR ws signsS s (pastN gapB s j) acc=r) (hinv:RInv w acc v wr) (hng:gapB (s[j].toNat:Int)=false) (hlet:letB (s[j].toNat:Int)=true) (e:Nat) (hee:pastN lodB s j=e) (hge:j<e) (hes:e≤s.size)
include ws s w wr r K f v j acc hs hlt hal hL he hinv hng hlet e hee hge hes
open zrqcn in
theorem way_word_mid (hex:e<s.size)(hw:isIn ws (s.extract j e)=true)(hrd:rdTok ws signsS s j=.tok 2 (s.extract j e) 0 e) :
  Code.wp Tryz.prog body6 (Q6 ws s w r K (s.size - j)) (fr s w.heap.size v (.int .i64 (j:Int)) f) wr:=by
 have _h3:=hge
 clear _h3
 exact zri
open zrqco in
theorem way_word_end (hex:e=s.size)(hw:isIn ws (s.extract j e)=true)(hrd:rdTok ws signsS s j=.tok 2 (s.extract j e) 0 e) :
  Code.wp Tryz.prog body6 (Q6 ws s w r K (s.size - j)) (fr s w.heap.size v (.int .i64 (j:Int)) f) wr:=by
 have _h3:=hge
 clear _h3
 exact zri
open zrqcp in
theorem way_name_mid (hex:e<s.size)(hw:isIn ws (s.extract j e)=false)(h20:¬ 20<e - j)(hrd:rdTok ws signsS s j=.tok 1 (s.extract j e) 0 e) :
  Code.wp Tryz.prog body6 (Q6 ws s w r K (s.size - j)) (fr s w.heap.size v (.int .i64 (j:Int)) f) wr:=by
 have _h3:=hge
 clear _h3
 exact zri
open zrqcq in
theorem way_name_end (hex:e=s.size)(hw:isIn ws (s.extract j e)=false)(h20:¬ 20<e - j)(hrd:rdTok ws signsS s j=.tok 1 (s.extract j e) 0 e) :
  Code.wp Tryz.prog body6 (Q6 ws s w r K (s.size - j)) (fr s w.heap.size v (.int .i64 (j:Int)) f) wr:=by
 have _h3:=hge
 clear _h3
 exact zri
open zrqcr in
theorem way_long_mid (hex:e<s.size)(hw:isIn ws (s.extract j e)=false)(h20:20<e - j)(hrd:rdTok ws signsS s j=.bad 4 j) :
  Code.wp Tryz.prog body6 (Q6 ws s w r K (s.size - j)) (fr s w.heap.size v (.int .i64 (j:Int)) f) wr:=by
 have _h3:=hge
 clear _h3
 exact zri
open zrqcs in
theorem way_long_end (hex:e=s.size)(hw:isIn ws (s.extract j e)=false)(h20:20<e - j)(hrd:rdTok ws signsS s j=.bad 4 j) :
  Code.wp Tryz.prog body6 (Q6 ws s w r K (s.size - j)) (fr s w.heap.size v (.int .i64 (j:Int)) f) wr:=by
 have _h3:=hge
 clear _h3
 exact zri
end
section
variable (ws:List ByteArray) (s:ByteArray) (w wr:World) (r:TR) (K:Act→World→Prop) (f:Nat→Value) (v:Value) (j:Nat) (acc:List Tk) (hs:s.size≤3000) (hlt:j<s.size) (hal:acc.length≤j) (hL:RefLists ws w) (he:toksR ws signsS s (pastN gapB s j) acc=r) (hinv:RInv w acc v wr) (hng:gapB (s[j].toNat:Int)=false) (hlet:letB (s[j].toNat:Int)=false) (hdig:digB (s[j].toNat:Int)=true) (e:Nat) (hee:pastN digB s j=e) (hge:j<e) (hes:e≤s.size)
include ws s w wr r K f v j acc hs hlt hal hL he hinv hng hlet hdig e hee hge hes
theorem way_dlong_mid (hex:e<s.size)(h10:10<e - j)(hrd:rdTok ws signsS s j=.bad 3 j) :
  Code.wp Tryz.prog body6 (Q6 ws s w r K (s.size - j)) (fr s w.heap.size v (.int .i64 (j:Int)) f) wr:=by
 exact zdad
theorem way_dlong_end (hex:e=s.size)(h10:10<e - j)(hrd:rdTok ws signsS s j=.bad 3 j) :
  Code.wp Tryz.prog body6 (Q6 ws s w r K (s.size - j)) (fr s w.heap.size v (.int .i64 (j:Int)) f) wr:=by
 exact zdab
theorem way_dzero_mid (hex:e<s.size)(h10:¬ 10<e - j)(h1:1<e - j)(h48:(((s[j].toNat:Nat):Int)==48)=true)(hrd:rdTok ws signsS s j=.bad 3 j) :
  Code.wp Tryz.prog body6 (Q6 ws s w r K (s.size - j)) (fr s w.heap.size v (.int .i64 (j:Int)) f) wr:=by
 exact zdad
theorem way_dzero_end (hex:e=s.size)(h10:¬ 10<e - j)(h1:1<e - j)(h48:(((s[j].toNat:Nat):Int)==48)=true)(hrd:rdTok ws signsS s j=.bad 3 j) :
  Code.wp Tryz.prog body6 (Q6 ws s w r K (s.size - j)) (fr s w.heap.size v (.int .i64 (j:Int)) f) wr:=by
 exact zdab
open zrqcl in
theorem way_dbig_mid (hex:e<s.size)(n:Int)(hn:numL (s.extract j e).data.toList=n)(h10:¬ 10<e - j)(h1:1<e - j)(h48:(((s[j].toNat:Nat):Int)==48)=false)(hb:1000000000<n)(hrd:rdTok ws signsS s j=.bad 2 j) :
  Code.wp Tryz.prog body6 (Q6 ws s w r K (s.size - j)) (fr s w.heap.size v (.int .i64 (j:Int)) f) wr:=by
 have _h3:=hge
 have _h4:=hes
 clear _h3 _h4
 exact zri
open zrqcm in
theorem way_dbig_end (hex:e=s.size)(n:Int)(hn:numL (s.extract j e).data.toList=n)(h10:¬ 10<e - j)(h1:1<e - j)(h48:(((s[j].toNat:Nat):Int)==48)=false)(hb:1000000000<n)(hrd:rdTok ws signsS s j=.bad 2 j) :
  Code.wp Tryz.prog body6 (Q6 ws s w r K (s.size - j)) (fr s w.heap.size v (.int .i64 (j:Int)) f) wr:=by
 have _h3:=hge
 have _h4:=hes
 clear _h3 _h4
 exact zri
theorem way_dmany_mid (hex:e<s.size)(n:Int)(hn:numL (s.extract j e).data.toList=n)(h10:¬ 10<e - j)(h1:1<e - j)(h48:(((s[j].toNat:Nat):Int)==48)=false)(hb:¬ 1000000000<n)(hrd:rdTok ws signsS s j=.tok 3 ⟨#[]⟩ n e) :
  Code.wp Tryz.prog body6 (Q6 ws s w r K (s.size - j)) (fr s w.heap.size v (.int .i64 (j:Int)) f) wr:=by
 exact zdac
theorem way_dmany_end (hex:e=s.size)(n:Int)(hn:numL (s.extract j e).data.toList=n)(h10:¬ 10<e - j)(h1:1<e - j)(h48:(((s[j].toNat:Nat):Int)==48)=false)(hb:¬ 1000000000<n)(hrd:rdTok ws signsS s j=.tok 3 ⟨#[]⟩ n e) :
  Code.wp Tryz.prog body6 (Q6 ws s w r K (s.size - j)) (fr s w.heap.size v (.int .i64 (j:Int)) f) wr:=by
 exact zdaa
theorem way_done_mid (hex:e<s.size)(n:Int)(hn:numL (s.extract j e).data.toList=n)(h1:¬ 1<e - j)(hb:¬ 1000000000<n)(hrd:rdTok ws signsS s j=.tok 3 ⟨#[]⟩ n e) :
  Code.wp Tryz.prog body6 (Q6 ws s w r K (s.size - j)) (fr s w.heap.size v (.int .i64 (j:Int)) f) wr:=by
 exact zdac
theorem way_done_end (hex:e=s.size)(n:Int)(hn:numL (s.extract j e).data.toList=n)(h1:¬ 1<e - j)(hb:¬ 1000000000<n)(hrd:rdTok ws signsS s j=.tok 3 ⟨#[]⟩ n e) :
  Code.wp Tryz.prog body6 (Q6 ws s w r K (s.size - j)) (fr s w.heap.size v (.int .i64 (j:Int)) f) wr:=by
 exact zdaa
end
theorem new4_cells (w:World)(a c d:Int)(x:ByteArray)(j:Nat)(u:Value)(h:([.int .i64 a,.string x,.int .i64 c,.int .i64 d]:List Value)[j]? = some u) :
  (w.alloc (.cells #[.int .i64 a,.string x,.int .i64 c,.int .i64 d] 167)).cell? (Addr.add ⟨w.heap.size,0,none⟩ j)=some u:=by
 match j,h with
 | 0,h=>simp at h;subst h;simp[Addr.add]
 | 1,h=>simp at h;subst h;simp[Addr.add]
 | 2,h=>simp at h;subst h;simp[Addr.add]
 | 3,h=>simp at h;subst h;simp[Addr.add]
theorem new4_one (a c d:Int)(x:ByteArray)(u:Value)(h:u ∈ ([.int .i64 a,.string x,.int .i64 c,.int .i64 d]:List Value)):u.oneCell'=true:=by
 simp only[List.mem_cons,List.not_mem_nil,or_false] at h
 rcases h with rfl|rfl|rfl|rfl <;> rfl
theorem ext_list (s:ByteArray)(a b:Nat):(s.extract a b).data.toList=(s.data.toList.drop a).take (b - a):=Lib.extract_data s a b
theorem cat1 (s:ByteArray)(q:Nat)(said:List UInt8)(h:q<s.size):ofBytes said++s.extract q (q+1)=ofBytes (said++[s[q]]):=by
 apply WideShapes.bytes_inj
 have h1:(ofBytes said++s.extract q (q+1)).data.toList=said++(s.extract q (q+1)).data.toList:=by simp[ofBytes]
 rw[h1,ext_list]
 have h2:q<s.data.toList.length:=by simpa using h
 rw[List.drop_eq_getElem_cons h2,show q+1 - q=1 from by omega]
 rfl
theorem cat2 (said:List UInt8):ofBytes said ++ ⟨#[10]⟩=ofBytes (said++[10]):=by
 apply WideShapes.bytes_inj
 simp[ofBytes]
theorem ofB_size (said:List UInt8):(ofBytes said).size=said.length:=by simp[ofBytes,ByteArray.size]
section
variable (ws:List ByteArray) (s:ByteArray) (w wr:World) (r:TR) (K:Act→World→Prop) (f:Nat→Value) (v:Value) (j:Nat) (acc:List Tk) (hs:s.size≤3000) (hlt:j<s.size) (hal:acc.length≤j) (hL:RefLists ws w) (he:toksR ws signsS s (pastN gapB s j) acc=r) (hinv:RInv w acc v wr) (hng:gapB (s[j].toNat:Int)=false) (hlet:letB (s[j].toNat:Int)=false) (hdig:digB (s[j].toNat:Int)=false) (hquo:(((s[j].toNat:Nat):Int)==39)=true)
include ws s w wr r K f v j acc hs hlt hal hL he hinv hng hlet hdig hquo
open zrqct in
theorem way_sok (l:List UInt8)(e:Nat)(hR:strR s (j+1) []=.ok l e)(hes:e≤s.size)(hje:j<e)(hl:l.length≤500)(hrd:rdTok ws signsS s j=.tok 4 (ofBytes l) 0 e) :
  Code.wp Tryz.prog body6 (Q6 ws s w r K (s.size - j)) (fr s w.heap.size v (.int .i64 (j:Int)) f) wr:=by
 exact zri
open zrqcu in
theorem way_slong (l:List UInt8)(e:Nat)(hR:strR s (j+1) []=.ok l e)(hl:500<l.length)(hrd:rdTok ws signsS s j=.bad 4 j) :
  Code.wp Tryz.prog body6 (Q6 ws s w r K (s.size - j)) (fr s w.heap.size v (.int .i64 (j:Int)) f) wr:=by
 exact zri
open zrqcv in
theorem way_sbad (p:Nat)(hR:strR s (j+1) []=.bad p)(hrd:rdTok ws signsS s j=.bad 3 p) :
  Code.wp Tryz.prog body6 (Q6 ws s w r K (s.size - j)) (fr s w.heap.size v (.int .i64 (j:Int)) f) wr:=by
 exact zri
end
theorem notEmpty (s:ByteArray)(h1:1≤s.size):s.toList.isEmpty=false:=by
 rw[ByteArray.toList_eq]
 cases hd:s.data.toList with
 | nil=>
  have h2:s.data.toList.length=0:=by rw[hd];rfl
  have h3:s.size=s.data.toList.length:=by simp
  omega
 | cons a l=>rfl
theorem signs_cells (w:World)(k:Nat)(hk:k<19):(w.alloc (.cells #[.string ⟨#[61,61,61]⟩,.string ⟨#[38,38]⟩,.string ⟨#[124,124]⟩,.string ⟨#[40]⟩,.string ⟨#[41]⟩,.string ⟨#[123]⟩,.string ⟨#[125]⟩,.string ⟨#[91]⟩,.string ⟨#[93]⟩,.string ⟨#[59]⟩,.string ⟨#[58]⟩,.string ⟨#[44]⟩,.string ⟨#[46]⟩,.string ⟨#[61]⟩,.string ⟨#[43]⟩,.string ⟨#[45]⟩,.string ⟨#[42]⟩,.string ⟨#[60]⟩,.string ⟨#[33]⟩] 9)).cell? ⟨w.heap.size,k,none⟩=some (.string (signsS.getD k ByteArray.empty)):=by
 have h1:(w.alloc (.cells #[.string ⟨#[61,61,61]⟩,.string ⟨#[38,38]⟩,.string ⟨#[124,124]⟩,.string ⟨#[40]⟩,.string ⟨#[41]⟩,.string ⟨#[123]⟩,.string ⟨#[125]⟩,.string ⟨#[91]⟩,.string ⟨#[93]⟩,.string ⟨#[59]⟩,.string ⟨#[58]⟩,.string ⟨#[44]⟩,.string ⟨#[46]⟩,.string ⟨#[61]⟩,.string ⟨#[43]⟩,.string ⟨#[45]⟩,.string ⟨#[42]⟩,.string ⟨#[60]⟩,.string ⟨#[33]⟩] 9)).heap[w.heap.size]? = some (.cells #[.string ⟨#[61,61,61]⟩,.string ⟨#[38,38]⟩,.string ⟨#[124,124]⟩,.string ⟨#[40]⟩,.string ⟨#[41]⟩,.string ⟨#[123]⟩,.string ⟨#[125]⟩,.string ⟨#[91]⟩,.string ⟨#[93]⟩,.string ⟨#[59]⟩,.string ⟨#[58]⟩,.string ⟨#[44]⟩,.string ⟨#[46]⟩,.string ⟨#[61]⟩,.string ⟨#[43]⟩,.string ⟨#[45]⟩,.string ⟨#[42]⟩,.string ⟨#[60]⟩,.string ⟨#[33]⟩] 9):=heap_alloc_new w _
 simp only[World.cell?,h1]
 have h2:∀ k:Fin 19,(#[.string ⟨#[61,61,61]⟩,.string ⟨#[38,38]⟩,.string ⟨#[124,124]⟩,.string ⟨#[40]⟩,.string ⟨#[41]⟩,.string ⟨#[123]⟩,.string ⟨#[125]⟩,.string ⟨#[91]⟩,.string ⟨#[93]⟩,.string ⟨#[59]⟩,.string ⟨#[58]⟩,.string ⟨#[44]⟩,.string ⟨#[46]⟩,.string ⟨#[61]⟩,.string ⟨#[43]⟩,.string ⟨#[45]⟩,.string ⟨#[42]⟩,.string ⟨#[60]⟩,.string ⟨#[33]⟩]:Array Value)[k.val]? = some (.string (signsS.getD k.val ByteArray.empty)):=by
  intro k
  match k with
  | ⟨0,_⟩=>rfl
  | ⟨1,_⟩=>rfl
  | ⟨2,_⟩=>rfl
  | ⟨3,_⟩=>rfl
  | ⟨4,_⟩=>rfl
  | ⟨5,_⟩=>rfl
  | ⟨6,_⟩=>rfl
  | ⟨7,_⟩=>rfl
  | ⟨8,_⟩=>rfl
  | ⟨9,_⟩=>rfl
  | ⟨10,_⟩=>rfl
  | ⟨11,_⟩=>rfl
  | ⟨12,_⟩=>rfl
  | ⟨13,_⟩=>rfl
  | ⟨14,_⟩=>rfl
  | ⟨15,_⟩=>rfl
  | ⟨16,_⟩=>rfl
  | ⟨17,_⟩=>rfl
  | ⟨18,_⟩=>rfl
  | ⟨n+19,h⟩=>exact absurd h (by omega)
 exact h2 ⟨k,hk⟩
theorem signs_sz:∀ i,i<19→(signsS.getD i ByteArray.empty).size≤3:=by decide +kernel
section
variable (ws:List ByteArray) (s:ByteArray) (w wr:World) (r:TR) (K:Act→World→Prop) (f:Nat→Value) (v:Value) (j:Nat) (acc:List Tk) (hs:s.size≤3000) (hlt:j<s.size) (hal:acc.length≤j) (hL:RefLists ws w) (he:toksR ws signsS s (pastN gapB s j) acc=r) (hinv:RInv w acc v wr) (hng:gapB (s[j].toNat:Int)=false) (hlet:letB (s[j].toNat:Int)=false) (hdig:digB (s[j].toNat:Int)=false) (hquo:(((s[j].toNat:Nat):Int)==39)=false)
include ws s w wr r K f v j acc hs hlt hal hL he hinv hng hlet hdig hquo
open zrqcw in
theorem way_znone (hno:∀ k,k<19→pfxB (s.extract j s.size) (signsS.getD k ByteArray.empty)=false)(hrd:rdTok ws signsS s j=.bad 3 j) :
  Code.wp Tryz.prog body6 (Q6 ws s w r K (s.size - j)) (fr s w.heap.size v (.int .i64 (j:Int)) f) wr:=by
 exact zri
open zrqcx in
theorem way_zsome (m:Nat)(hm:m<19)(g:ByteArray)(hgm:signsS.getD m ByteArray.empty=g)(hg1:1≤g.size)(hg3:g.size≤3)(hno:∀ k,k<m→pfxB (s.extract j s.size) (signsS.getD k ByteArray.empty)=false)(hyes:pfxB (s.extract j s.size) g=true)(e:Nat)(heg:j+g.size=e)(hes:e≤s.size)(hrd:rdTok ws signsS s j=.tok 5 g 0 e) :
  Code.wp Tryz.prog body6 (Q6 ws s w r K (s.size - j)) (fr s w.heap.size v (.int .i64 (j:Int)) f) wr:=by
 exact zri
end
end Go.Proofs.YtoimgcjbcbhclaaGreatDoor
