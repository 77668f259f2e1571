import Derived.Test.YticfnaiehdpbmaaGreatDoorAg9
import Derived.Shelf.Strings.Builder1
import Derived.Shelf.Strings.Builder2
import Derived.Shelf.Strings.OnBuilder
import Derived.Shelf.Small.Strs
import Derived.Shelf.Strconv.Itoa0
import Derived.Shelf.Strconv.Itoa1
import Derived.Shelf.LaysM
import Derived.Shelf.Strconv.Itoa2
import Derived.Shelf.Strconv.Itoa3
import Derived.Shelf.Strings.Search1
import Derived.Test.YticfnaiehdpbmaaGreatDoorProg
import Derived.LaidEql
import Derived.Stop.Asserts
import Derived.RowKitTokens
set_option maxRecDepth 100000
set_option maxHeartbeats 8000000
set_option linter.unusedVariables false
namespace Go.Proofs.YticfnaiehdpbmaaGreatDoor
open Go.RowKit Go.Proofs.Tryz
namespace Hp
structure Mo.Ok (M:Mo):Prop where
 out:∀ (i:Nat) x,M.NQ[i]? = some x->-1<=x.outer/\x.outer<i
 obj:∀ (i:Nat) x,M.NQ[i]? = some x->x.object = -1\/∃ j:Nat,x.object=j/\j<M.objs.length
 up:∀ (i:Nat) x,M.objs[i]? = some x->uniq Pr.name x.ps
 uc:∀ (i:Nat) x,M.NQ[i]? = some x->uniq Ce.name x.cs
def Mo.fnd (M:Mo)(nm:NR):Nat->Int->Int
 | 0,_=>-1
 | f+1,i=>match M.ro i with
  | none=>-1
  | some x=>if M.has i nm then i else M.fnd nm f x.outer
def Mo.find (M:Mo)(i:Int)(nm:NR):Int:=M.fnd nm (M.NQ.length+1) i
theorem acz {M:Mo}(ok:M.Ok)(nm:NR):∀ (f:Nat) (i:Int),i<f->M.Finds nm i (M.fnd nm (f+1) i)
 | f,i,ay=>by
  rw[Mo.fnd]
  rcases OX M i with ⟨h0,_⟩|⟨k,x,rfl,ac,h1⟩
  ·rw[h0];exact .out i h0
  ·rw[h1]
   show M.Finds nm k (if M.has k nm=true then (k:Int) else M.fnd nm f x.outer)
   cases hh:M.has k nm with
   | true=>rw[if_pos rfl];exact .here k x ac hh
   | false=>
    rw[if_neg NH];have aM:=ok.out k x ac;refine .on k x _ ac hh aM.2 ?_
    cases f with
    | zero=>omega
    | succ f=>exact acz ok nm f x.outer Nw
theorem ayq {M:Mo}{i:Int}{x:Ro}(h:M.ro i=some x):i<M.NQ.length:=by
 rcases OX M i with ⟨h0,_⟩|⟨k,y,rfl,hy,_⟩
 ·rw[h0] at h;cases h
 ·have:=(List.getElem?_eq_some_iff.1 hy).1;omega
theorem ams {M:Mo}(ok:M.Ok)(i:Int)(nm:NR):M.Finds nm i (M.find i nm):=by
 unfold Mo.find
 by_cases ay:i<M.NQ.length
 ·exact acz ok nm _ i ay
 ·have h0:M.ro i=none:=by
   cases ac:M.ro i with
   | none=>rfl
   | some x=>exact absurd (ayq ac) ay
  rw[Mo.fnd,h0];exact .out i h0
def Mo.put (M:Mo)(o:Int)(nm:NR)(v:Va)(fx:Bool):Int × Mo:=
 match M.ob o with
 | none=>(7,M)
 | some x=>match fP nm x.ps with
  | none=>(0,M.Q5 o.toNat ⟨x.code,x.ps++[⟨nm,v,fx⟩]⟩)
  | some k=>match x.ps[k]? with
   | none=>(0,M)
   | some c=>(0,M.Q5 o.toNat ⟨x.code,x.ps.set k ⟨c.name,v,c.fixed⟩⟩)
def Mo.cut (M:Mo)(o:Int)(nm:NR):Bool × Mo:=
 match M.ob o with
 | none=>(true,M)
 | some x=>match fP nm x.ps with
  | none=>(true,M)
  | some k=>match x.ps[k]? with
   | none=>(true,M)
   | some c=>if c.fixed then (false,M) else (true,M.Q5 o.toNat ⟨x.code,x.ps.eraseIdx k⟩)
def Mo.declare (M:Mo)(s:Int)(nm:NR)(kd:Int)(v:Va):Int × Mo:=
 match M.ro s with
 | none=>(7,M)
 | some x=>if x.object≠-1 then (1,M) else match fC nm x.cs with
  | some _=>(9,M)
  | none=>(0,M.Qw s.toNat ⟨x.outer,x.object,x.cs++[⟨nm,v,kd,!(kd==1||kd==2)⟩]⟩)
def Mo.start (M:Mo)(s:Int)(nm:NR)(v:Va):Int × Mo:=
 match M.ro s with
 | none=>(7,M)
 | some x=>match fC nm x.cs with
  | none=>(7,M)
  | some k=>match x.cs[k]? with
   | none=>(7,M)
   | some c=>(0,M.Qw s.toNat ⟨x.outer,x.object,x.cs.set k ⟨c.name,v,c.kind,true⟩⟩)
def Mo.read (M:Mo)(s:Int)(nm:NR):Va × Int:=
 match M.XM s nm with
 | some c=>if c.ready then (c.v,0) else (⟨0,0,⟨#[]⟩⟩,6)
 | none=>match M.prop (M.Ql s) nm with
  | some p=>(p.v,0)
  | none=>(⟨0,0,⟨#[]⟩⟩,7)
def Mo.write (M:Mo)(s:Int)(nm:NR)(v:Va):Int × Mo:=
 if M.has s nm then
  match M.XM s nm with
  | none=>M.put (M.Ql s) nm v false
  | some c=>if c.ready=false then (6,M) else if c.kind=2 then (1,M) else if c.kind=3 then (5,M) else
   match M.ro s with
   | none=>(7,M)
   | some x=>match fC nm x.cs with
    | none=>(7,M)
    | some k=>(0,M.Qw s.toNat ⟨x.outer,x.object,x.cs.set k ⟨c.name,v,c.kind,c.ready⟩⟩)
 else (7,M)
def Mo.drop (M:Mo)(s:Int)(nm:NR):Bool × Mo:=
 match M.XM s nm with
 | none=>M.cut (M.Ql s) nm
 | some c=>if c.kind≠4 then (false,M) else
  match M.ro s with
  | none=>(false,M)
  | some x=>match fC nm x.cs with
   | none=>(false,M)
   | some k=>(true,M.Qw s.toNat ⟨x.outer,x.object,x.cs.eraseIdx k⟩)
def Mo.Oy (M:Mo)(c:Int):Mo:=⟨M.objs++[⟨c,[]⟩],M.NQ⟩
def Mo.scope (M:Mo)(u o:Int):Mo:=⟨M.objs,M.NQ++[⟨if (M.ro u).isSome then u else -1,if (M.ob o).isSome then o else -1,[]⟩]⟩
section
variable {H:Nat} {R:List NP} {w w1:Ny} {M:Mo} {K:Nat}
section
variable (h:OO H R w M)
include h
theorem OO.lt:H<w.heap.size:=by
 obtain⟨_,_,_,_,h⟩:=h;exact h.c.2.2.2.2
theorem OO.later (D:NJ w w1):OO H R w1 M:=by
 obtain⟨az,aB,os,b7,h⟩:=h;exact⟨az,aB,os,b7,h.later D⟩
theorem OO.same (D:NJ w w1):OO H R w1 M/\OB Th H w w1:=⟨h.later D,OB.of D (Oi h.lt)⟩
theorem ayr (ae:M.Small K)(A:K<=1000000000)(o:Int)(nm:NR)(v:Va)(fx:Bool) :
  NK 56 #[hP H,Nr o,ND nm,vA v,NI fx] w fun e w'=>e=NU (RY (M.put o nm v fx).1)/\OO H R w' (M.put o nm v fx).2/\OB Th H w w':=by
 have hh:=h;obtain⟨az,aB,os,b7,h⟩:=h
 rcases Qm M o with ⟨h0,_⟩|⟨i,x,rfl,ac,h1⟩
 ·refine(apB h o nm v fx h0).mono ?_;rintro e w' ⟨rfl,D⟩;have av:M.put o nm v fx=(7,M):=by unfold Mo.put;rw[h0]
  rw[av];exact⟨rfl,hh.same D⟩
 ·
  cases E:fP nm x.ps with
  | none=>
   refine(apC h ae A i x ac nm v fx E).mono ?_;rintro e w' ⟨rfl,⟨pQ,O⟩,ax⟩;have av:M.put i nm v fx=(0,M.Q5 i ⟨x.code,x.ps++[⟨nm,v,fx⟩]⟩):=by unfold Mo.put;rw[h1];simp only[E,Int.toNat_natCast]
   rw[av];exact⟨rfl,⟨az,aB,pQ,b7,O⟩,ax⟩
  | some k=>
   have cJ:k<x.ps.length:=by
    obtain⟨O,_⟩:=List.findIdx?_eq_some_iff_getElem.1 E;exact O
   have ai:x.ps[k]? = some x.ps[k]:=List.getElem?_eq_getElem cJ;refine(aiG h ae A i x ac nm v fx k _ E ai).mono ?_;rintro e w' ⟨rfl,O,ax⟩;have av:M.put i nm v fx=(0,M.Q5 i ⟨x.code,x.ps.set k ⟨(x.ps[k]).name,v,(x.ps[k]).fixed⟩⟩):=by unfold Mo.put;rw[h1];simp only[E,ai,Int.toNat_natCast]
   rw[av];exact⟨rfl,⟨az,aB,os,b7,O⟩,ax⟩
theorem adl (ok:M.Ok)(ae:M.Small K)(A:K<=1000000000)(i:Int)(nm:NR) :
  NK 195 #[hP H,Nr i,ND nm] w fun e w'=>e=NU (Nr (M.find i nm))/\NJ w w':=by
 obtain⟨az,aB,os,b7,h⟩:=h;exact amf h ae A i _ nm (ams ok i nm)
end
section
variable (h:OO H R w M) (ae:M.Small K) (A:K<=1000000000) (s:Int) (nm:NR)
include h ae A s nm
theorem atI :
  NK 290 #[hP H,Nr s,ND nm] w fun e w'=>e=NU (.tuple #[vA (M.read s nm).1,RY (M.read s nm).2])/\NJ w w':=by
 obtain⟨az,aB,os,b7,h⟩:=h
 cases ai:M.XM s nm with
 | some c=>
  have O:=amh h ae A s nm ai
  cases U:c.ready with
  | true=>
   rw[U,if_pos rfl] at O;have av:M.read s nm=(c.v,0):=by unfold Mo.read;simp only[ai,U,if_true]
   rw[av];exact O
  | false=>
   rw[U,if_neg NH] at O;have av:M.read s nm=(⟨0,0,⟨#[]⟩⟩,6):=by unfold Mo.read;simp only[ai,U];rfl
   rw[av];exact O
 | none=>
  cases al:M.prop (M.Ql s) nm with
  | none=>
   have av:M.read s nm=(⟨0,0,⟨#[]⟩⟩,7):=by unfold Mo.read;simp only[ai,al]
   rw[av];exact acy h ae A s nm ai _ 0 0 ⟨#[]⟩ rfl _ (fun W a6=>amg (h.later a6) ae A _ nm al)
  | some p=>
   have av:M.read s nm=(p.v,0):=by unfold Mo.read;simp only[ai,al]
   rw[av];exact acy h ae A s nm ai _ p.v.k p.v.n p.v.s rfl _ (fun W a6=>aj6 (h.later a6) ae A _ nm al)
theorem XA (kd:Int)(v:Va) :
  NK 128 #[hP H,Nr s,ND nm,Nr kd,vA v] w fun e w'=>e=NU (RY (M.declare s nm kd v).1)/\OO H R w' (M.declare s nm kd v).2/\OB Th H w w':=by
 have hh:=h;obtain⟨az,aB,os,b7,h⟩:=h
 rcases OX M s with ⟨h0,_⟩|⟨i,x,rfl,ac,h1⟩
 ·refine(amo h s nm kd v h0).mono ?_;rintro e w' ⟨rfl,D⟩;have av:M.declare s nm kd v=(7,M):=by unfold Mo.declare;rw[h0]
  rw[av];exact⟨rfl,hh.same D⟩
 ·by_cases aM:x.object = -1
  ·
   cases E:fC nm x.cs with
   | some k=>
    have cJ:k<x.cs.length:=by
     obtain⟨O,_⟩:=List.findIdx?_eq_some_iff_getElem.1 E;exact O
    refine(ag5 h ae A i x ac nm kd v aM k _ E (List.getElem?_eq_getElem cJ)).mono ?_;rintro e w' ⟨rfl,D⟩;have av:M.declare i nm kd v=(9,M):=by unfold Mo.declare;rw[h1];simp[aM,E]
    rw[av];exact⟨rfl,hh.same D⟩
   | none=>
    have av:M.declare i nm kd v=(0,M.Qw i ⟨x.outer,x.object,x.cs++[⟨nm,v,kd,!(kd==1||kd==2)⟩]⟩):=by unfold Mo.declare;rw[h1];simp[aM,E]
    rw[av]
    by_cases aY:kd=1
    ·have bC:(!(kd==1||kd==2))=false:=by rw[aY];rfl
     rw[bC];refine(aj8 h ae A i x ac nm kd v aM E aY).mono ?_;exact atJ
    ·by_cases aX:kd=2
     ·have bC:(!(kd==1||kd==2))=false:=by rw[aX];rfl
      rw[bC];refine(ag6 h ae A i x ac nm kd v aM E aX).mono ?_;exact atJ
     ·have bC:(!(kd==1||kd==2))=true:=by simp[aY,aX]
      rw[bC];refine(ag7 h ae A i x ac nm kd v aM E aY aX).mono ?_;exact atJ
  ·refine(amq h ae A i x ac nm kd v aM).mono ?_;rintro e w' ⟨rfl,D⟩;have av:M.declare i nm kd v=(1,M):=by unfold Mo.declare;rw[h1];simp[aM]
   rw[av];exact⟨rfl,hh.same D⟩
end
theorem aaO {s:Int}{nm:NR}:(M.XM s nm=none/\(M.ro s=none\/∃ (i:Nat) (x:Ro),s=i/\M.NQ[i]? = some x/\M.ro s=some x/\fC nm x.cs=none)) \/
  ∃ (i:Nat) (x:Ro) (k:Nat) (c:Ce),s=i/\M.NQ[i]? = some x/\M.ro s=some x/\fC nm x.cs=some k/\x.cs[k]? = some c/\M.XM s nm=some c:=by
 rcases OX M s with ⟨h0,_⟩|⟨i,x,rfl,ac,h1⟩
 ·exact .inl ⟨by unfold Mo.XM;rw[h0];rfl,.inl h0⟩
 ·rcases UM (fun c=>YS nm c.name) x.cs with ⟨dZ,dW⟩|⟨k,c,dZ,dW,fO,_⟩
  ·exact .inl ⟨by unfold Mo.XM;rw[h1];exact dW,.inr ⟨i,x,rfl,ac,h1,dZ⟩⟩
  ·exact .inr ⟨i,x,k,c,rfl,ac,h1,dZ,dW,by unfold Mo.XM;rw[h1];exact fO⟩
theorem aiH {o:Int}{nm:NR}:(M.prop o nm=none/\(M.ob o=none\/∃ (i:Nat) (x:Ob),o=i/\M.objs[i]? = some x/\M.ob o=some x/\fP nm x.ps=none)) \/
  ∃ (i:Nat) (x:Ob) (k:Nat) (c:Pr),o=i/\M.objs[i]? = some x/\M.ob o=some x/\fP nm x.ps=some k/\x.ps[k]? = some c/\M.prop o nm=some c:=by
 rcases Qm M o with ⟨h0,_⟩|⟨i,x,rfl,ac,h1⟩
 ·exact .inl ⟨by unfold Mo.prop;rw[h0];rfl,.inl h0⟩
 ·rcases UM (fun c=>YS nm c.name) x.ps with ⟨dZ,dW⟩|⟨k,c,dZ,dW,fO,_⟩
  ·exact .inl ⟨by unfold Mo.prop;rw[h1];exact dW,.inr ⟨i,x,rfl,ac,h1,dZ⟩⟩
  ·exact .inr ⟨i,x,k,c,rfl,ac,h1,dZ,dW,by unfold Mo.prop;rw[h1];exact fO⟩
theorem apF (h:OO H R w M)(ae:M.Small K)(A:K<=1000000000)(s:Int)(nm:NR)(v:Va) :
  NK 198 #[hP H,Nr s,ND nm,vA v] w fun e w'=>e=NU (RY (M.start s nm v).1)/\OO H R w' (M.start s nm v).2/\OB Th H w w':=by
 have hh:=h;obtain⟨az,aB,os,b7,h⟩:=h
 rcases aaO (M:=M) (s:=s) (nm:=nm) with ⟨ai,U⟩|⟨i,x,k,c,rfl,ac,h1,E,eI,_⟩
 ·refine(ag1 h ae A s nm v ai).mono ?_;rintro e w' ⟨rfl,D⟩;have av:M.start s nm v=(7,M):=by
   unfold Mo.start
   rcases U with U|⟨i,x,rfl,_,h1,E⟩
   ·rw[U]
   ·rw[h1];simp only[E]
  rw[av];exact⟨rfl,hh.same D⟩
 ·refine(ag2 h ae A i x ac nm v k c E eI).mono ?_;rintro e w' ⟨rfl,O,ax⟩;have av:M.start i nm v=(0,M.Qw i ⟨x.outer,x.object,x.cs.set k ⟨c.name,v,c.kind,true⟩⟩):=by unfold Mo.start;rw[h1];simp only[E,eI,Int.toNat_natCast]
  rw[av];exact⟨rfl,⟨az,aB,os,b7,O⟩,ax⟩
section
variable (h:OO H R w M) (ok:M.Ok) (ae:M.Small K) (A:K<=1000000000)
include h ok ae A
theorem arQ (o:Int)(nm:NR) :
  NK 315 #[hP H,Nr o,ND nm] w fun e w'=>e=NU (NI (M.cut o nm).1)/\OO H R w' (M.cut o nm).2/\OB Th H w w':=by
 have hh:=h;obtain⟨az,aB,os,b7,h⟩:=h
 rcases aiH (M:=M) (o:=o) (nm:=nm) with ⟨ai,U⟩|⟨i,x,k,c,rfl,ac,h1,E,eI,al⟩
 ·refine(atA h ae A o nm ai).mono ?_;rintro e w' ⟨rfl,D⟩;have av:M.cut o nm=(true,M):=by
   unfold Mo.cut
   rcases U with U|⟨i,x,rfl,_,h1,E⟩
   ·rw[U]
   ·rw[h1];simp only[E]
  rw[av];exact⟨rfl,hh.same D⟩
 ·
  cases aG:c.fixed with
  | true=>
   refine(ajZ h ae A i nm al aG).mono ?_;rintro e w' ⟨rfl,D⟩;have av:M.cut i nm=(false,M):=by unfold Mo.cut;rw[h1];simp only[E,eI,aG,if_true]
   rw[av];exact⟨rfl,hh.same D⟩
  | false=>
   refine(atB h ae A i x ac nm k c E eI aG (ok.up i x ac)).mono ?_;rintro e w' ⟨rfl,⟨pQ,O⟩,ax⟩;have av:M.cut i nm=(true,M.Q5 i ⟨x.code,x.ps.eraseIdx k⟩):=by unfold Mo.cut;rw[h1];simp[E,eI,aG]
   rw[av];exact⟨rfl,⟨az,aB,pQ,b7,O⟩,ax⟩
theorem atK (s:Int)(nm:NR) :
  NK 297 #[hP H,Nr s,ND nm] w fun e w'=>e=NU (NI (M.drop s nm).1)/\OO H R w' (M.drop s nm).2/\OB Th H w w':=by
 have hh:=h;obtain⟨az,aB,os,b7,h⟩:=h
 rcases aaO (M:=M) (s:=s) (nm:=nm) with ⟨ai,_⟩|⟨i,x,k,c,rfl,ac,h1,E,eI,ai⟩
 ·have av:M.drop s nm=M.cut (M.Ql s) nm:=by unfold Mo.drop;rw[ai]
  rw[av];exact aj1 h ae A s nm ai _ _ (fun W a6=>arQ (hh.later a6) ok ae A _ nm)
 ·by_cases aU:c.kind=4
  ·refine(aps h ae A i x ac nm k c E eI aU (ok.uc i x ac)).mono ?_;rintro e w' ⟨rfl,⟨mB,O⟩,ax⟩;have av:M.drop i nm=(true,M.Qw i ⟨x.outer,x.object,x.cs.eraseIdx k⟩):=by unfold Mo.drop;rw[ai,h1];simp[E,aU]
   rw[av];exact⟨rfl,⟨az,aB,os,mB,O⟩,ax⟩
  ·refine(aj0 h ae A i nm ai aU).mono ?_;rintro e w' ⟨rfl,D⟩;have av:M.drop i nm=(false,M):=by unfold Mo.drop;rw[ai];simp[aU]
   rw[av];exact⟨rfl,hh.same D⟩
end
section
variable (h:OO H R w M) (ae:M.Small K) (A:K<=1000000000)
include h ae A
theorem adn (s:Int)(nm:NR)(v:Va) :
  NK 267 #[hP H,Nr s,ND nm,vA v] w fun e w'=>e=NU (RY (M.write s nm v).1)/\OO H R w' (M.write s nm v).2/\OB Th H w w':=by
 have hh:=h;obtain⟨az,aB,os,b7,h⟩:=h
 cases hhas:M.has s nm with
 | false=>
  refine(amm h ae A s nm v hhas).mono ?_;rintro e w' ⟨rfl,D⟩;have av:M.write s nm v=(7,M):=by unfold Mo.write;rw[hhas];rfl
  rw[av];exact⟨rfl,hh.same D⟩
 | true=>
  rcases aaO (M:=M) (s:=s) (nm:=nm) with ⟨ai,_⟩|⟨i,x,k,c,rfl,ac,h1,E,eI,ai⟩
  ·have al:(M.prop (M.Ql s) nm).isSome=true:=by
    unfold Mo.has at hhas;rw[ai] at hhas;simpa using hhas
   rcases aiH (M:=M) (o:=M.Ql s) (nm:=nm) with ⟨aA,_⟩|⟨j,y,k,p,aT,hy,h1,E,qx,_⟩
   ·rw[aA] at al;cases al
   ·refine(ag4 h ae A s nm v ai j y aT hy k p E qx).mono ?_;rintro e w' ⟨rfl,O,ax⟩;have av:M.write s nm v=(0,M.Q5 j ⟨y.code,y.ps.set k ⟨p.name,v,p.fixed⟩⟩):=by
     unfold Mo.write Mo.put;rw[hhas,if_pos rfl,ai];simp only[h1,E,qx];rw[aT,Int.toNat_natCast]
    rw[av];exact⟨rfl,⟨az,aB,os,b7,O⟩,ax⟩
  ·
   cases U:c.ready with
   | false=>
    refine(afa h ae A i x ac nm v k c E eI U).mono ?_;rintro e w' ⟨rfl,D⟩;have av:M.write i nm v=(6,M):=by unfold Mo.write;rw[hhas,if_pos rfl,ai];simp[U]
    rw[av];exact⟨rfl,hh.same D⟩
   | true=>
    by_cases O:c.kind=2
    ·refine(afb h ae A i x ac nm v k c E eI U O).mono ?_;rintro e w' ⟨rfl,D⟩;have av:M.write i nm v=(1,M):=by unfold Mo.write;rw[hhas,if_pos rfl,ai];simp[U,O]
     rw[av];exact⟨rfl,hh.same D⟩
    ·by_cases ax:c.kind=3
     ·refine(aj7 h ae A i x ac nm v k c E eI U ax).mono ?_;rintro e w' ⟨rfl,D⟩;have av:M.write i nm v=(5,M):=by unfold Mo.write;rw[hhas,if_pos rfl,ai];simp[U,ax]
      rw[av];exact⟨rfl,hh.same D⟩
     ·refine(amn h ae A i x ac nm v k c E eI U O ax).mono ?_;rintro e w' ⟨rfl,aX,cu⟩;have av:M.write i nm v=(0,M.Qw i ⟨x.outer,x.object,x.cs.set k ⟨c.name,v,c.kind,c.ready⟩⟩):=by unfold Mo.write;rw[hhas,if_pos rfl,ai];simp[U,O,ax,h1,E]
      rw[av];exact⟨rfl,⟨az,aB,os,b7,aX⟩,cu⟩
theorem ado (u o:Int)(aO:u = -1\/(M.ro u).isSome=true)(aM:o = -1\/(M.ob o).isSome=true) :
  NK 105 #[hP H,Nr u,Nr o] w fun e w'=>e=NU (Nr (M.NQ.length:Int))/\OO H R w' (M.scope u o)/\OB Th H w w':=by
 obtain⟨az,aB,os,b7,h⟩:=h;have bQ:M.ro (-1)=none:=rfl;have bG:M.ob (-1)=none:=rfl
 rcases OX M u with ⟨Bd,_⟩|⟨i,x,rfl,ac,oX⟩
 ·have wn:u = -1:=aO.resolve_right (by rw[Bd];simp)
  subst wn
  rcases Qm M o with ⟨vW,_⟩|⟨j,y,rfl,hy,vX⟩
  ·have j2:o = -1:=aM.resolve_right (by rw[vW];simp)
   subst j2;exact al1 h ae A
  ·have av:M.scope (-1) j=⟨M.objs,M.NQ++[⟨-1,j,[]⟩]⟩:=by unfold Mo.scope;rw[bQ,vX];rfl
   rw[av];exact al5 h ae A j y hy
 ·rcases Qm M o with ⟨vW,_⟩|⟨j,y,rfl,hy,vX⟩
  ·have j2:o = -1:=aM.resolve_right (by rw[vW];simp)
   subst j2;have av:M.scope i (-1)=⟨M.objs,M.NQ++[⟨i,-1,[]⟩]⟩:=by unfold Mo.scope;rw[oX,bG];rfl
   rw[av];exact al3 h ae A i x ac
  ·have av:M.scope i j=⟨M.objs,M.NQ++[⟨i,j,[]⟩]⟩:=by unfold Mo.scope;rw[oX,vX];rfl
   rw[av];exact al6 h ae A i x ac j y hy
theorem arR (s:Int)(nm:NR):NK 55 #[hP H,Nr s,ND nm] w fun e w'=>e=NU (NI (M.has s nm))/\NJ w w':=by
 obtain⟨az,aB,os,b7,h⟩:=h;exact Xz h ae A s nm
theorem ays (o:Int)(nm:NR):NK 124 #[hP H,Nr o,ND nm] w fun e w'=>e=NU (.tuple #[al9 (M.prop o nm),NI (M.prop o nm).isSome])/\NJ w w':=by
 obtain⟨az,aB,os,b7,h⟩:=h;exact get_any h ae A o nm
theorem atL (s:Int)(nm:NR):NK 353 #[hP H,Nr s,ND nm] w fun e w'=>e=NU (Nr (M.kindOf s nm))/\NJ w w':=by
 obtain⟨az,aB,os,b7,h⟩:=h;exact Yw h ae A s nm
end
section
variable (h:OO H R w M)
include h
theorem ag8 (s:Int):NK 209 #[hP H,Nr s] w fun e w'=>e=NU (Nr (M.codeOf s))/\w'=w:=by
 obtain⟨az,aB,os,b7,h⟩:=h;exact W9 h s
theorem aiI (s:Int):NK 125 #[hP H,Nr s] w fun e w'=>e=NU (Nr (M.Ql s))/\w'=w:=by
 obtain⟨az,aB,os,b7,h⟩:=h;exact Y8 h s
theorem apG (s:Int):NK 252 #[hP H,Nr s] w fun e w'=>e=NU (Nr (M.outOf s))/\w'=w:=by
 obtain⟨az,aB,os,b7,h⟩:=h;exact acw h s
theorem Yx (ae:M.Small K)(A:K<=1000000000)(c:Int) :
  NK 49 #[hP H,Nr c] w fun e w'=>e=NU (Nr M.objs.length)/\OO H R w' (M.Oy c)/\OB Th H w w':=by
 obtain⟨az,aB,os,b7,h⟩:=h;exact aj2 h ae A c
end
end
section
variable {α:Type} {f:α->NR} {l:List α}
include α f l
theorem aaP {k:Nat}{a b:α}(h:uniq f l)(aw:l[k]? = some a)(D:f b=f a):uniq f (l.set k b):=by
 have key:∀ (i:Nat) c,(l.set k b)[i]? = some c->∃ ft,l[i]? = some ft/\f c=f ft:=fun i c ai=>by
  by_cases xF:k=i
  ·subst xF;have hl:k<l.length:=(List.getElem?_eq_some_iff.1 aw).1;rw[List.getElem?_set_self hl] at ai;cases ai;exact⟨a,aw,D⟩
  ·rw[List.getElem?_set_ne xF] at ai;exact⟨c,ai,rfl⟩
 intro i j c d ai hd au;obtain⟨ft,sy,av⟩:=key i c ai;obtain⟨ox,sB,bC⟩:=key j d hd;exact h i j ft ox sy sB (by rw[<-av,<-bC];exact au)
theorem acA {b:α}(h:uniq f l)(aA:∀ a ∈ l,(f a).toList≠(f b).toList):uniq f (l++[b]):=by
 have key:∀ (i:Nat) c,(l++[b])[i]? = some c->(i<l.length/\l[i]? = some c)\/(i=l.length/\c=b):=fun i c ai=>by
  by_cases ay:i<l.length
  ·rw[List.getElem?_append_left ay] at ai;exact .inl ⟨ay,ai⟩
  ·rw[List.getElem?_append_right Nw] at ai;have h0:=(List.getElem?_eq_some_iff.1 ai).1;simp at h0;have:i=l.length:=Nw;subst this;simp at ai;exact .inr ⟨rfl,ai.symm⟩
 intro i j c d ai hd au
 rcases key i c ai with ⟨_,h1⟩|⟨av,rfl⟩ <;> rcases key j d hd with ⟨_,O⟩|⟨bC,rfl⟩
 ·exact h i j c d h1 O au
 ·exact absurd au (aA c (List.mem_of_getElem? h1))
 ·exact absurd au.symm (aA d (List.mem_of_getElem? O))
 ·omega
theorem aaQ {k:Nat}(h:uniq f l):uniq f (l.eraseIdx k):=by
 intro i j c d ai hd au;rw[List.getElem?_eraseIdx] at ai hd
 split at ai <;> split at hd
 all_goals
  have:=h _ _ c d ai hd au;omega
end
theorem atM {nm:NR}{l:List Pr}(h:fP nm l=none):∀ a ∈ l,a.name.toList≠nm.toList:=fun a aw=>by
 have:=List.findIdx?_eq_none_iff.1 h a aw;simpa[YS] using this
theorem atN {nm:NR}{l:List Ce}(h:fC nm l=none):∀ a ∈ l,a.name.toList≠nm.toList:=fun a aw=>by
 have:=List.findIdx?_eq_none_iff.1 h a aw;simpa[YS] using this
theorem aaf {α:Type}{l:List α}{i j:Nat}{x y:α}(h:(l.set i x)[j]? = some y):(i=j/\y=x/\i<l.length)\/l[j]? = some y:=by
 by_cases DW:i=j
 ·subst DW;have hl:i<l.length:=by have:=(List.getElem?_eq_some_iff.1 h).1;simpa using this
  rw[List.getElem?_set_self hl] at h;cases h;exact .inl ⟨rfl,rfl,hl⟩
 ·rw[List.getElem?_set_ne DW] at h;exact .inr h
theorem Mo.Small.mono {M:Mo}{k lq:Nat}(h:M.Small k)(E:k<=lq):M.Small lq:=
 ⟨Nat.le_trans h.o E,Nat.le_trans h.r E,fun x ac=>Nat.le_trans (h.ps x ac) E,fun x ac=>Nat.le_trans (h.cs x ac) E⟩
structure Mo.Go (M:Mo)(k:Nat):Prop where
 ok:M.Ok
 sm:M.Small k
theorem Mo.Go.up {M:Mo}{k lq:Nat}(h:M.Go k)(E:k<=lq):M.Go lq:=⟨h.ok,h.sm.mono E⟩
theorem Mo.Go.Q5 {M:Mo}{k i:Nat}{x':Ob}(h:M.Go k)(aO:uniq Pr.name x'.ps)(hl:x'.ps.length<=k+1):(M.Q5 i x').Go (k+1):=by
 refine⟨⟨h.ok.out,fun j y aT=>?_,fun j y aT=>?_,h.ok.uc⟩,⟨?_,Nat.le_succ_of_le h.sm.r,fun y hy=>?_,fun y hy=>Nat.le_succ_of_le (h.sm.cs y hy)⟩⟩
 ·have:=h.ok.obj j y aT;simpa[Mo.Q5] using this
 ·rcases aaf aT with ⟨_,rfl,_⟩|aT
  ·exact aO
  ·exact h.ok.up j y aT
 ·have:=h.sm.o;simp[Mo.Q5];omega
 ·rcases List.mem_or_eq_of_mem_set hy with hy|rfl
  ·exact Nat.le_succ_of_le (h.sm.ps y hy)
  ·exact hl
theorem Mo.Go.Qw {M:Mo}{k i:Nat}{x x':Ro}(h:M.Go k)(ay:M.NQ[i]? = some x)(aM:x'.outer=x.outer)(D:x'.object=x.object)(aO:uniq Ce.name x'.cs)(hl:x'.cs.length<=k+1):(M.Qw i x').Go (k+1):=by
 refine⟨⟨fun j y aT=>?_,fun j y aT=>?_,h.ok.up,fun j y aT=>?_⟩,⟨Nat.le_succ_of_le h.sm.o,?_,fun y hy=>Nat.le_succ_of_le (h.sm.ps y hy),fun y hy=>?_⟩⟩
 ·rcases aaf aT with ⟨rfl,rfl,_⟩|aT
  ·rw[aM];exact h.ok.out i x ay
  ·exact h.ok.out j y aT
 ·rcases aaf aT with ⟨rfl,rfl,_⟩|aT
  ·rw[D];exact h.ok.obj i x ay
  ·exact h.ok.obj j y aT
 ·rcases aaf aT with ⟨_,rfl,_⟩|aT
  ·exact aO
  ·exact h.ok.uc j y aT
 ·have:=h.sm.r;simp[Mo.Qw];omega
 ·rcases List.mem_or_eq_of_mem_set hy with hy|rfl
  ·exact Nat.le_succ_of_le (h.sm.cs y hy)
  ·exact hl
section
variable {M:Mo} {k:Nat} (h:M.Go k) (o:Int) (nm:NR)
include M k h o nm
theorem Mo.Go.put (v:Va)(fx:Bool):(M.put o nm v fx).2.Go (k+1):=by
 unfold Mo.put
 rcases Qm M o with ⟨h0,_⟩|⟨i,x,rfl,ac,h1⟩
 ·rw[h0];exact h.up (Nat.le_succ _)
 ·rw[h1];have aV:=h.sm.ps x (List.mem_of_getElem? ac);have aO:=h.ok.up i x ac
  cases E:fP nm x.ps with
  | none=>
   simp only[E];exact h.Q5 (acA aO (atM E)) Qa
  | some j=>
   simp only[E]
   cases ai:x.ps[j]? with
   | none=>exact h.up (Nat.le_succ _)
   | some c=>exact h.Q5 (aaP aO ai rfl) Qa
theorem Mo.Go.cut:(M.cut o nm).2.Go (k+1):=by
 unfold Mo.cut
 rcases Qm M o with ⟨h0,_⟩|⟨i,x,rfl,ac,h1⟩
 ·rw[h0];exact h.up (Nat.le_succ _)
 ·rw[h1];have aV:=h.sm.ps x (List.mem_of_getElem? ac);have aO:=h.ok.up i x ac
  cases E:fP nm x.ps with
  | none=>simp only[E];exact h.up (Nat.le_succ _)
  | some j=>
   simp only[E]
   cases ai:x.ps[j]? with
   | none=>exact h.up (Nat.le_succ _)
   | some c=>
    simp only
    split
    ·exact h.up (Nat.le_succ _)
    ·exact h.Q5 (aaQ aO) (by rw[List.length_eraseIdx];split <;> omega)
end
section
variable {M:Mo} {k:Nat} (h:M.Go k) (s:Int) (nm:NR)
include M k h s nm
theorem Mo.Go.declare (kd:Int)(v:Va):(M.declare s nm kd v).2.Go (k+1):=by
 unfold Mo.declare
 rcases OX M s with ⟨h0,_⟩|⟨i,x,rfl,ac,h1⟩
 ·rw[h0];exact h.up (Nat.le_succ _)
 ·rw[h1];have aV:=h.sm.cs x (List.mem_of_getElem? ac);have aO:=h.ok.uc i x ac;simp only
  split
  ·exact h.up (Nat.le_succ _)
  ·
   cases E:fC nm x.cs with
   | some j=>exact h.up (Nat.le_succ _)
   | none=>
    simp only[Int.toNat_natCast];exact h.Qw ac rfl rfl (acA aO (atN E)) Qa
theorem Mo.Go.start (v:Va):(M.start s nm v).2.Go (k+1):=by
 unfold Mo.start
 rcases OX M s with ⟨h0,_⟩|⟨i,x,rfl,ac,h1⟩
 ·rw[h0];exact h.up (Nat.le_succ _)
 ·rw[h1];have aV:=h.sm.cs x (List.mem_of_getElem? ac);have aO:=h.ok.uc i x ac
  cases E:fC nm x.cs with
  | none=>simp only[E];exact h.up (Nat.le_succ _)
  | some j=>
   simp only[E]
   cases ai:x.cs[j]? with
   | none=>exact h.up (Nat.le_succ _)
   | some c=>
    simp only[Int.toNat_natCast];exact h.Qw ac rfl rfl (aaP aO ai rfl) Qa
theorem Mo.Go.write (v:Va):(M.write s nm v).2.Go (k+1):=by
 unfold Mo.write
 split
 ·rcases aaO (M:=M) (s:=s) (nm:=nm) with ⟨ai,_⟩|⟨i,x,j,c,rfl,ac,h1,E,eI,ai⟩
  ·rw[ai];exact h.put _ nm v false
  ·have aV:=h.sm.cs x (List.mem_of_getElem? ac);have aO:=h.ok.uc i x ac;rw[ai];simp only[h1,E,Int.toNat_natCast]
   split
   ·exact h.up (Nat.le_succ _)
   ·split
    ·exact h.up (Nat.le_succ _)
    ·split
     ·exact h.up (Nat.le_succ _)
     ·exact h.Qw ac rfl rfl (aaP aO eI rfl) Qa
 ·exact h.up (Nat.le_succ _)
theorem Mo.Go.drop:(M.drop s nm).2.Go (k+1):=by
 unfold Mo.drop
 rcases aaO (M:=M) (s:=s) (nm:=nm) with ⟨ai,_⟩|⟨i,x,j,c,rfl,ac,h1,E,eI,ai⟩
 ·rw[ai];exact h.cut _ nm
 ·have aV:=h.sm.cs x (List.mem_of_getElem? ac);have aO:=h.ok.uc i x ac;rw[ai];simp only[h1,E,Int.toNat_natCast]
  split
  ·exact h.up (Nat.le_succ _)
  ·exact h.Qw ac rfl rfl (aaQ aO) (by show (x.cs.eraseIdx j).length<=_;rw[List.length_eraseIdx];split <;> omega)
end
theorem afc {α:Type}(f:α->NR):uniq f []:=fun i j a b h=>by simp at h
theorem Mo.Go.Oy {M:Mo}{k:Nat}(h:M.Go k)(c:Int):(M.Oy c).Go (k+1):=by
 refine⟨⟨h.ok.out,fun i x ac=>?_,fun i x ac=>?_,h.ok.uc⟩,⟨?_,Nat.le_succ_of_le h.sm.r,fun x ac=>?_,fun x ac=>Nat.le_succ_of_le (h.sm.cs x ac)⟩⟩
 ·rcases h.ok.obj i x ac with e|⟨j,e,aT⟩
  ·exact .inl e
  ·exact .inr ⟨j,e,by simp[Mo.Oy];omega⟩
 ·rcases Nat.lt_or_ge i M.objs.length with ay|ay
  ·have eM:(M.objs++[(⟨c,[]⟩:Ob)])[i]? = some x:=ac;rw[List.getElem?_append_left ay] at eM;exact h.ok.up i x eM
  ·have eM:(M.objs++[(⟨c,[]⟩:Ob)])[i]? = some x:=ac;have aV:=List.mem_of_getElem? (by rw[List.getElem?_append_right ay] at eM;exact eM)
   rw[List.mem_singleton.1 aV];exact afc _
 ·have:=h.sm.o;simp[Mo.Oy];omega
 ·rcases List.mem_append.1 ac with ac|ac
  ·exact Nat.le_succ_of_le (h.sm.ps x ac)
  ·rw[List.mem_singleton.1 ac];simp
theorem Mo.Go.scope {M:Mo}{k:Nat}(h:M.Go k)(u o:Int):(M.scope u o).Go (k+1):=by
 have key:∀ (i:Nat) (x:Ro),(M.scope u o).NQ[i]? = some x->M.NQ[i]? = some x\/(i=M.NQ.length/\x=⟨if (M.ro u).isSome then u else -1,if (M.ob o).isSome then o else -1,[]⟩):=fun i x ac=>by
  have eM:(M.NQ++[(⟨if (M.ro u).isSome then u else -1,if (M.ob o).isSome then o else -1,[]⟩:Ro)])[i]? = some x:=ac
  rcases Nat.lt_or_ge i M.NQ.length with ay|ay
  ·rw[List.getElem?_append_left ay] at eM;exact .inl eM
  ·rw[List.getElem?_append_right ay] at eM;have hl:=(List.getElem?_eq_some_iff.1 eM).1;simp at hl;exact .inr ⟨by omega,List.mem_singleton.1 (List.mem_of_getElem? eM)⟩
 refine⟨⟨fun i x ac=>?_,fun i x ac=>?_,h.ok.up,fun i x ac=>?_⟩,⟨Nat.le_succ_of_le h.sm.o,?_,fun x ac=>Nat.le_succ_of_le (h.sm.ps x ac),fun x ac=>?_⟩⟩
 ·rcases key i x ac with ac|⟨rfl,rfl⟩
  ·exact h.ok.out i x ac
  ·show -1<=(if (M.ro u).isSome=true then u else -1)/\(if (M.ro u).isSome=true then u else -1)<(M.NQ.length:Int)
   rcases OX M u with ⟨h0,_⟩|⟨j,y,rfl,hy,h1⟩
   ·rw[h0];simp;omega
   ·rw[h1];have:=(List.getElem?_eq_some_iff.1 hy).1;simp;omega
 ·rcases key i x ac with ac|⟨rfl,rfl⟩
  ·exact h.ok.obj i x ac
  ·show (if (M.ob o).isSome=true then o else -1) = -1\/∃ j:Nat,(if (M.ob o).isSome=true then o else -1)=j/\j<M.objs.length
   rcases Qm M o with ⟨h0,_⟩|⟨j,y,rfl,hy,h1⟩
   ·rw[h0];exact .inl rfl
   ·rw[h1];exact .inr ⟨j,rfl,(List.getElem?_eq_some_iff.1 hy).1⟩
 ·rcases key i x ac with ac|⟨rfl,rfl⟩
  ·exact h.ok.uc i x ac
  ·exact afc _
 ·have:=h.sm.r;simp[Mo.scope];omega
 ·rcases List.mem_append.1 ac with ac|ac
  ·exact Nat.le_succ_of_le (h.sm.cs x ac)
  ·rw[List.mem_singleton.1 ac];simp
section
variable {H:Nat} {R:List NP} {w w1:Ny} {M:Mo} {az aB:NP} {os b7:List NP} {K:Nat}
theorem amu (h:HP H R w M az aB os b7)(ae:M.Small K)(A:K<=1000000000)(i:Nat)(x:Ro)(ay:M.NQ[i]? = some x)(o:Int)(aM:o<0\/(M.objs.length:Int)<=o) :
  NK 105 #[NM H 0,Nr (i:Int),Nr o] w fun e w'=>e=NU (Nr (M.NQ.length:Int))/\OO H R w' ⟨M.objs,M.NQ++[⟨(i:Int),(-1),[]⟩]⟩/\OB Th H w w':=by
 have z:=kk (∀{G}(h:G:=by
 have fw:NJ w (w.alloc (.cells #[Nr (i:Int),Nr o,PG] 198)):=OM;obtain⟨C5,xB⟩:=al4 (h.later fw) i x ay;clear ay;have d3:=(Xx az _ (Pv h.ob.row) o (by simpa using aM) (w.alloc (.cells #[Nr (i:Int),Nr o,PG] 198)));clear aM;exact aya),G);exact al2
theorem apH (h:OO H R w M)(ae:M.Small K)(A:K<=1000000000)(u o:Int)(aO:(M.ro u).isSome=true) :
  NK 105 #[hP H,Nr u,Nr o] w fun e w'=>e=NU (Nr (M.NQ.length:Int))/\OO H R w' (M.scope u o)/\OB Th H w w':=by
 rcases OX M u with ⟨Bd,_⟩|⟨i,x,rfl,ac,oX⟩
 ·rw[Bd] at aO;cases aO
 ·rcases Qm M o with ⟨vW,hout⟩|⟨j,y,rfl,hy,vX⟩
  ·have av:M.scope i o=⟨M.objs,M.NQ++[⟨i,-1,[]⟩]⟩:=by unfold Mo.scope;rw[oX,vW];rfl
   rw[av];obtain⟨az,aB,os,b7,h⟩:=h;exact amu h ae A i x ac o hout
  ·exact ado h ae A i j (Or.inr (by rw[oX];rfl)) (Or.inr (by rw[vX];rfl))
end
end Hp
end Go.Proofs.YticfnaiehdpbmaaGreatDoor
namespace Go.Proofs
open Go.Shelf
def Tryz.lays156_ren:Go.Shelf.Ren:=⟨fun|156=>318|165=>337|166=>282|169=>84|240=>240|241=>351|276=>288|277=>356|n=>n,fun|31=>26|9=>9|3=>3|4=>4|0=>0|20=>20|72=>171|76=>257|70=>169|37=>42|75=>31|127=>240|164=>127|5=>5|80=>175|n=>n,fun|n=>n⟩
theorem Tryz.lays156:Go.Proofs.Lays.n156 Tryz.prog Tryz.lays156_ren:={
 mixed:=by kernel_rfl
 f156:=Tryz.func318.trans (congrArg some (by kernel_rfl))
 f165:=Tryz.func337.trans (congrArg some (by kernel_rfl))
 f166:=Tryz.func282.trans (congrArg some (by kernel_rfl))
 f169:=Tryz.func84.trans (congrArg some (by kernel_rfl))
 f240:=Tryz.func240.trans (congrArg some (by kernel_rfl))
 f241:=Tryz.func351.trans (congrArg some (by kernel_rfl))
 f276:=Tryz.func288.trans (congrArg some (by kernel_rfl))
 f277:=Tryz.func356.trans (congrArg some (by kernel_rfl))
 t0:=Tryz.underlying0
 a0:=Tryz.isAgg0
 z0:=Tryz.sizeOf0
 v0:=Tryz.zeroValue0
 t3:=Tryz.underlying3
 a3:=Tryz.isAgg3
 z3:=Tryz.sizeOf3
 v3:=Tryz.zeroValue3
 t4:=Tryz.underlying4
 a4:=Tryz.isAgg4
 z4:=Tryz.sizeOf4
 v4:=Tryz.zeroValue4
 t9:=Tryz.underlying9
 a9:=Tryz.isAgg9
 z9:=Tryz.sizeOf9
 v9:=Tryz.zeroValue9
 t20:=Tryz.underlying20
 a20:=Tryz.isAgg20
 z20:=Tryz.sizeOf20
 v20:=Tryz.zeroValue20
 t31:=Tryz.underlying26
 a31:=Tryz.isAgg26
 z31:=Tryz.sizeOf26
 v31:=Tryz.zeroValue26
 t37:=Tryz.underlying42
 a37:=Tryz.isAgg42
 z37:=Tryz.sizeOf42
 v37:=Tryz.zeroValue42
 t70:=Tryz.underlying169
 a70:=Tryz.isAgg169
 z70:=Tryz.sizeOf169
 v70:=Tryz.zeroValue169
 t72:=Tryz.underlying171
 a72:=Tryz.isAgg171
 z72:=Tryz.sizeOf171
 v72:=Tryz.zeroValue171
 t75:=Tryz.underlying31
 a75:=Tryz.isAgg31
 z75:=Tryz.sizeOf31
 v75:=Tryz.zeroValue31
 t76:=Tryz.underlying257
 a76:=Tryz.isAgg257
 z76:=Tryz.sizeOf257
 v76:=Tryz.zeroValue257
 t127:=Tryz.underlying240
 a127:=Tryz.isAgg240
 z127:=Tryz.sizeOf240
 v127:=Tryz.zeroValue240
 t164:=Tryz.underlying127
 a164:=Tryz.isAgg127
 z164:=Tryz.sizeOf127
 v164:=Tryz.zeroValue127 }
theorem Tryz.Builder_Extra_156:Builder.Extra Tryz.prog Tryz.lays156_ren:={
 sizeBuilder:=by kernel_rfl
 liesBuilder:=by kernel_rfl
 t5:=Tryz.underlying5
 a5:=Tryz.isAgg5
 z5:=Tryz.sizeOf5
 v5:=Tryz.zeroValue5
 infoByte:=by kernel_rfl
 cellsByte:=by kernel_rfl
 sizeByte:=by kernel_rfl
 neB5:=by decide }
open Go.RowKit in
theorem Tryz.strings_Join_none (a:Option Addr)(c:Nat)(sep:ByteArray)(w:World) :
  Calls Tryz.prog 318 #[.slice a 0 c,.string sep] w fun e w'=>e=.returned (.string ⟨#[]⟩)/\w'=w:=Any.strings_Join_none Tryz.lays156 Tryz.Builder_Extra_156 a c sep w
open Go.RowKit in
theorem Tryz.strings_Join (bk o c:Nat)(xs:List ByteArray)(sep:ByteArray)(w:World)(hcells:∀ (j:Nat) x,xs[j]? = some x->w.cell? ⟨bk,o+j,none⟩=some (.string x))(hbk:bk<w.heap.size)(hN:xs.length<=140737488355328)(hcap:xs.length<=c)(hlen:(Lib.join (xs.map (·.data.toList)) sep.data.toList).length<=140737488355328) :
  Calls Tryz.prog 318 #[.slice (some ⟨bk,o,none⟩) xs.length c,.string sep] w fun e w'=>e=.returned (.string ⟨(Lib.join (xs.map (·.data.toList)) sep.data.toList).toArray⟩)/\Below w.heap.size w w':=Any.strings_Join Tryz.lays156 Tryz.Builder_Extra_156 bk o c xs sep w hcells hbk hN hcap hlen
def Tryz.laysM171_ren:Go.Shelf.Ren:=⟨fun|171=>133|243=>208|246=>271|283=>302|284=>303|285=>304|286=>305|129=>326|317=>325|318=>327|319=>328|320=>329|337=>343|338=>344|n=>n,fun|3=>3|9=>9|2=>2|4=>4|171=>319|0=>0|53=>320|37=>42|5=>5|173=>323|212=>341|51=>342|20=>20|213=>343|46=>87|232=>364|233=>365|n=>n,fun|17=>8|18=>11|19=>12|n=>n⟩
theorem Tryz.laysM171:Go.Proofs.LaysM.n171 Tryz.prog Tryz.laysM171_ren:={
 mixed:=by kernel_rfl
 f129:=Tryz.func326.trans (congrArg some (by kernel_rfl))
 f171:=Tryz.func133.trans (congrArg some (by kernel_rfl))
 f243:=Tryz.func208.trans (congrArg some (by kernel_rfl))
 f246:=Tryz.func271.trans (congrArg some (by kernel_rfl))
 f283:=Tryz.func302.trans (congrArg some (by kernel_rfl))
 f284:=Tryz.func303.trans (congrArg some (by kernel_rfl))
 f285:=Tryz.func304.trans (congrArg some (by kernel_rfl))
 f286:=Tryz.func305.trans (congrArg some (by kernel_rfl))
 f317:=Tryz.func325.trans (congrArg some (by kernel_rfl))
 f318:=Tryz.func327.trans (congrArg some (by kernel_rfl))
 f319:=Tryz.func328.trans (congrArg some (by kernel_rfl))
 f320:=Tryz.func329.trans (congrArg some (by kernel_rfl))
 f337:=Tryz.func343.trans (congrArg some (by kernel_rfl))
 f338:=Tryz.func344.trans (congrArg some (by kernel_rfl))
 t0:=Tryz.underlying0
 a0:=Tryz.isAgg0
 z0:=Tryz.sizeOf0
 v0:=Tryz.zeroValue0
 t2:=Tryz.underlying2
 a2:=Tryz.isAgg2
 z2:=Tryz.sizeOf2
 v2:=Tryz.zeroValue2
 t3:=Tryz.underlying3
 a3:=Tryz.isAgg3
 z3:=Tryz.sizeOf3
 v3:=Tryz.zeroValue3
 t4:=Tryz.underlying4
 a4:=Tryz.isAgg4
 z4:=Tryz.sizeOf4
 v4:=Tryz.zeroValue4
 t5:=Tryz.underlying5
 a5:=Tryz.isAgg5
 z5:=Tryz.sizeOf5
 v5:=Tryz.zeroValue5
 t9:=Tryz.underlying9
 a9:=Tryz.isAgg9
 z9:=Tryz.sizeOf9
 v9:=Tryz.zeroValue9
 t20:=Tryz.underlying20
 a20:=Tryz.isAgg20
 z20:=Tryz.sizeOf20
 v20:=Tryz.zeroValue20
 t37:=Tryz.underlying42
 a37:=Tryz.isAgg42
 z37:=Tryz.sizeOf42
 v37:=Tryz.zeroValue42
 t46:=Tryz.underlying87
 a46:=Tryz.isAgg87
 z46:=Tryz.sizeOf87
 v46:=Tryz.zeroValue87
 t51:=Tryz.underlying342
 a51:=Tryz.isAgg342
 z51:=Tryz.sizeOf342
 v51:=Tryz.zeroValue342
 t53:=Tryz.underlying320
 a53:=Tryz.isAgg320
 z53:=Tryz.sizeOf320
 v53:=Tryz.zeroValue320
 t171:=Tryz.underlying319
 a171:=Tryz.isAgg319
 z171:=Tryz.sizeOf319
 v171:=Tryz.zeroValue319
 t173:=Tryz.underlying323
 a173:=Tryz.isAgg323
 z173:=Tryz.sizeOf323
 v173:=Tryz.zeroValue323
 t212:=Tryz.underlying341
 a212:=Tryz.isAgg341
 z212:=Tryz.sizeOf341
 v212:=Tryz.zeroValue341
 t213:=Tryz.underlying343
 a213:=Tryz.isAgg343
 z213:=Tryz.sizeOf343
 t232:=Tryz.underlying364
 a232:=Tryz.isAgg364
 z232:=Tryz.sizeOf364
 v232:=Tryz.zeroValue364
 t233:=Tryz.underlying365
 a233:=Tryz.isAgg365
 z233:=Tryz.sizeOf365
 v233:=Tryz.zeroValue365
 g17:=by kernel_rfl
 g18:=by kernel_rfl
 g19:=by kernel_rfl
 i0:=by kernel_rfl
 i2:=by kernel_rfl
 i3:=by kernel_rfl
 i4:=by kernel_rfl
 i5:=by kernel_rfl
 i9:=by kernel_rfl
 i20:=by kernel_rfl
 i37:=by kernel_rfl
 i46:=by kernel_rfl
 i51:=by kernel_rfl
 i53:=by kernel_rfl
 i171:=by kernel_rfl
 i173:=by kernel_rfl
 i212:=by kernel_rfl
 i232:=by kernel_rfl
 i233:=by kernel_rfl
 m17:=by kernel_rfl
 m18:=by kernel_rfl
 m19:=by kernel_rfl }
open Go.RowKit Go.Sort Go.Lib in
theorem Tryz.strconv_Itoa (n : Int) (h0 : -9223372036854775808 <= n) (h1 : n <= 9223372036854775807) (w : World) (htab : Lib.TabIs Tryz.prog w "internal/strconv.uint64pow10" .u64 Lib.pow10Tab) :
  Calls Tryz.prog 133 #[.int .i64 n] w fun e w'=>e=.returned (.string ⟨(Lib.itoa n).toArray⟩)/\∃ k os,w'=grow (w.drewN k) os:=Any.strconv_Itoa Tryz.laysM171 n h0 h1 w htab
end Go.Proofs
namespace Go.Proofs.YticfnaiehdpbmaaGreatDoor
open Go.RowKit Go.Proofs.Tryz
namespace Hp
section
open Go.RowKit Go.Extern.Stop Go.Stop Go.Extern
theorem at_one (v:NP)(f:NP->Sem NP)(g:Array NP->Sem NP):@ReflectliteValue.method.match_2 (fun _=>Sem NP) #[v] f g=f v:=rfl
theorem aln (v x:NP)(f:NP->NP->Sem NP)(g:Array NP->Sem NP):@ReflectliteValue.set.match_3 (fun _=>Sem NP) #[v,x] f g=f v x:=rfl
theorem R9.ajq (t:Addr)(w:Ny):(ReflectliteValue.unpack (.iface 86 (.pointer (some t)))).run prog w
  = .ok (.agg #[NM 13 86,NM w.heap.size 0,.int .u64 150]) (w.alloc (.cells #[.pointer (some t)] 86)):=by kernel_rfl
theorem R9.ajr (n:Int)(w:Ny):(ReflectliteValue.unpack (.iface 34 (Nr n))).run prog w
  = .ok (.agg #[NM 13 34,NM w.heap.size 0,.int .u64 130]) (w.alloc (.cells #[Nr n] 34)):=by kernel_rfl
theorem R9.asY (a : Addr) (w : Ny) : (ReflectliteValue.methodAny (ReflectliteValue.valueError "reflectlite.Value.Type" 0) (fun t _ _ _ => ReflectliteType.toType t) #[.agg #[NM 13 86, .pointer (some a), .int .u64 150]]).run prog w
  = .ok (.iface 215 (.agg #[NM 13 86])) w:=by kernel_rfl
theorem R9.asZ (w:Ny):((ReflectliteType.abiMethod fun t=>(fun a:Nat=>Value.int IntKind.u8 (a:Int)) <$> Rtype.kind t) #[NM 13 86]).run prog w=.ok (.int .u8 22) w:=by kernel_rfl
theorem R9.as1 (w:Ny):((ReflectliteType.abiMethod fun t=>(fun a:Nat=>Value.int IntKind.u8 (a:Int)) <$> Rtype.kind t) #[NM 13 34]).run prog w=.ok (.int .u8 2) w:=by kernel_rfl
theorem R9.aip (a:Addr)(w:Ny):(ReflectliteValue.parts (.agg #[NM 13 86,.pointer (some a),.int .u64 150])).run prog w=.ok (some (86,a,150)) w:=by kernel_rfl
theorem R9.ain (a p:Addr)(W:Ny)(aw:W.cell? a=some (.pointer (some p))) :
  (ReflectliteValue.method (ReflectliteValue.valueError "reflectlite.Value.IsNil" 0) ReflectliteValue.isNil #[.agg #[NM 13 86, .pointer (some a), .int .u64 150]]).run prog W = .ok (NI false) W := by
 delta ReflectliteValue.method
 rw[at_one];simp only[Sem.run_bind,R9.aip,Result.andThen];simp[ReflectliteValue.isNil,loadVar,isAgg,underlying,underlying86,aw,Result.andThen]
theorem R9.as2 (w:Ny):(ReflectliteType.method ReflectliteType.elem #[.agg #[NM 13 86]]).run prog w=.ok (.iface 215 (.agg #[NM 13 34])) w:=by kernel_rfl
theorem R9.ac1 (w : Ny) : (ReflectliteType.relation "Implements" ReflectliteType.implements_ #[.agg #[NM 13 34], .iface 215 (.agg #[NM 13 31])]).run prog w = .ok (NI true) w := by kernel_rfl
theorem R9.aeA (v:NP)(w:Ny):(ReflectliteType.typeOf #[.iface 34 v]).run prog w=.ok (.iface 215 (.agg #[NM 13 34])) w:=by kernel_rfl
theorem R9.alo (w:Ny):(Rtype.elem? 86).run prog w=.ok (some 34) w:=by kernel_rfl
theorem R9.aDG (p:Addr)(w:Ny):(ReflectliteValue.mk 34 p ReflectliteValue.flagAddr).run prog w=.ok (.agg #[NM 13 34,.pointer (some p),.int .u64 386]) w:=by kernel_rfl
theorem R9.aoP (a p:Addr)(W:Ny)(aw:W.cell? a=some (.pointer (some p))) :
  (ReflectliteValue.method (ReflectliteValue.valueError "reflectlite.Value.Elem" 0) ReflectliteValue.elem #[.agg #[NM 13 86, .pointer (some a), .int .u64 150]]).run prog W
   = .ok (.agg #[NM 13 34,.pointer (some p),.int .u64 386]) W:=by
 delta ReflectliteValue.method
 rw[at_one];simp only[Sem.run_bind,R9.aip,Result.andThen];simp[ReflectliteValue.elem,loadVar,isAgg,underlying,underlying86,aw,Result.andThen,R9.alo,R9.aDG]
theorem R9.alp (a:Addr)(w:Ny):(ReflectliteValue.parts (.agg #[NM 13 34,.pointer (some a),.int .u64 386])).run prog w=.ok (some (34,a,386)) w:=by kernel_rfl
theorem R9.aoQ (a:Addr)(w:Ny):(ReflectliteValue.parts (.agg #[NM 13 34,.pointer (some a),.int .u64 130])).run prog w=.ok (some (34,a,130)) w:=by kernel_rfl
theorem R9.alq (w:Ny):(Rtype.directlyAssignable 34 34).run prog w=.ok true w:=by kernel_rfl
theorem R9.awP (ta b:Addr)(n:Int)(old:NP)(W:Ny)(D:W.cell? b=some (Nr n))(a':W.cell? ta=some old)(aG:W.frozen? ta=false) :
  (ReflectliteValue.set #[.agg #[NM 13 34,.pointer (some ta),.int .u64 386],.agg #[NM 13 34,.pointer (some b),.int .u64 130]]).run prog W
   = .ok (.tuple #[]) (W.setCell ta (Nr n)):=by
 delta ReflectliteValue.set
 rw[aln];simp only[Sem.run_bind,R9.alp,R9.aoQ,Result.andThen];simp[ReflectliteValue.flagAddr,loadVar,isAgg,underlying,underlying34,D,Result.andThen,R9.alq,storeVar,Value.cells,storeCells,Addr.add];rw[run_store prog W ta _ _ (by rfl)];simp[a',aG]
theorem R9.agH (t:Addr)(w:Ny):(ReflectliteValue.unpack (.iface 123 (.pointer (some t)))).run prog w
  = .ok (.agg #[NM 13 123,NM w.heap.size 0,.int .u64 150]) (w.alloc (.cells #[.pointer (some t)] 123)):=by kernel_rfl
theorem R9.agI (p:Addr)(w:Ny):(ReflectliteValue.unpack (.iface 122 (.pointer (some p)))).run prog w
  = .ok (.agg #[NM 13 122,NM w.heap.size 0,.int .u64 150]) (w.alloc (.cells #[.pointer (some p)] 122)):=by kernel_rfl
theorem R9.aoR (a : Addr) (w : Ny) : (ReflectliteValue.methodAny (ReflectliteValue.valueError "reflectlite.Value.Type" 0) (fun t _ _ _ => ReflectliteType.toType t) #[.agg #[NM 13 123, .pointer (some a), .int .u64 150]]).run prog w
  = .ok (.iface 215 (.agg #[NM 13 123])) w:=by kernel_rfl
theorem R9.aoS (w:Ny):((ReflectliteType.abiMethod fun t=>(fun a:Nat=>Value.int IntKind.u8 (a:Int)) <$> Rtype.kind t) #[NM 13 123]).run prog w=.ok (.int .u8 22) w:=by kernel_rfl
theorem R9.aoT (w:Ny):((ReflectliteType.abiMethod fun t=>(fun a:Nat=>Value.int IntKind.u8 (a:Int)) <$> Rtype.kind t) #[NM 13 122]).run prog w=.ok (.int .u8 22) w:=by kernel_rfl
theorem R9.aeD (a:Addr)(w:Ny):(ReflectliteValue.parts (.agg #[NM 13 123,.pointer (some a),.int .u64 150])).run prog w=.ok (some (123,a,150)) w:=by kernel_rfl
theorem R9.aeC (a p:Addr)(W:Ny)(aw:W.cell? a=some (.pointer (some p))) :
  (ReflectliteValue.method (ReflectliteValue.valueError "reflectlite.Value.IsNil" 0) ReflectliteValue.isNil #[.agg #[NM 13 123, .pointer (some a), .int .u64 150]]).run prog W = .ok (NI false) W := by
 delta ReflectliteValue.method
 rw[at_one];simp only[Sem.run_bind,R9.aeD,Result.andThen];simp[ReflectliteValue.isNil,loadVar,isAgg,underlying,underlying123,aw,Result.andThen]
theorem R9.aoU (w:Ny):(ReflectliteType.method ReflectliteType.elem #[.agg #[NM 13 123]]).run prog w=.ok (.iface 215 (.agg #[NM 13 122])) w:=by kernel_rfl
theorem R9.abO (w : Ny) : (ReflectliteType.relation "Implements" ReflectliteType.implements_ #[.agg #[NM 13 122], .iface 215 (.agg #[NM 13 31])]).run prog w = .ok (NI true) w := by kernel_rfl
theorem R9.ajs (v:NP)(w:Ny):(ReflectliteType.typeOf #[.iface 122 v]).run prog w=.ok (.iface 215 (.agg #[NM 13 122])) w:=by kernel_rfl
theorem R9.ajt (w:Ny):(Rtype.elem? 123).run prog w=.ok (some 122) w:=by kernel_rfl
theorem R9.awQ (p:Addr)(w:Ny):(ReflectliteValue.mk 122 p ReflectliteValue.flagAddr).run prog w=.ok (.agg #[NM 13 122,.pointer (some p),.int .u64 406]) w:=by kernel_rfl
theorem R9.alr (a p:Addr)(W:Ny)(aw:W.cell? a=some (.pointer (some p))) :
  (ReflectliteValue.method (ReflectliteValue.valueError "reflectlite.Value.Elem" 0) ReflectliteValue.elem #[.agg #[NM 13 123, .pointer (some a), .int .u64 150]]).run prog W
   = .ok (.agg #[NM 13 122,.pointer (some p),.int .u64 406]) W:=by
 delta ReflectliteValue.method
 rw[at_one];simp only[Sem.run_bind,R9.aeD,Result.andThen];simp[ReflectliteValue.elem,loadVar,isAgg,underlying,underlying123,aw,Result.andThen,R9.ajt,R9.awQ]
theorem R9.aju (a:Addr)(w:Ny):(ReflectliteValue.parts (.agg #[NM 13 122,.pointer (some a),.int .u64 406])).run prog w=.ok (some (122,a,406)) w:=by kernel_rfl
theorem R9.als (a:Addr)(w:Ny):(ReflectliteValue.parts (.agg #[NM 13 122,.pointer (some a),.int .u64 150])).run prog w=.ok (some (122,a,150)) w:=by kernel_rfl
theorem R9.ajv (w:Ny):(Rtype.directlyAssignable 122 122).run prog w=.ok true w:=by kernel_rfl
theorem R9.as3 (ta b:Addr)(p:Addr)(old:NP)(W:Ny)(D:W.cell? b=some (.pointer (some p)))(a':W.cell? ta=some old)(aG:W.frozen? ta=false) :
  (ReflectliteValue.set #[.agg #[NM 13 122,.pointer (some ta),.int .u64 406],.agg #[NM 13 122,.pointer (some b),.int .u64 150]]).run prog W
   = .ok (.tuple #[]) (W.setCell ta (.pointer (some p))):=by
 delta ReflectliteValue.set
 rw[aln];simp only[Sem.run_bind,R9.aju,R9.als,Result.andThen];simp[ReflectliteValue.flagAddr,loadVar,isAgg,underlying,underlying122,D,Result.andThen,R9.ajv,storeVar,Value.cells,storeCells,Addr.add];rw[run_store prog W ta _ _ (by rfl)];simp[a',aG]
theorem R9.ajo (v:NP)(w:Ny):(ReflectliteType.typeOf #[.iface 150 v]).run prog w=.ok (.iface 215 (.agg #[NM 13 150])) w:=by kernel_rfl
theorem R9.ajp (v:NP)(w:Ny):(ReflectliteType.typeOf #[.iface 359 v]).run prog w=.ok (.iface 215 (.agg #[NM 13 359])) w:=by kernel_rfl
section
variable (w:Ny)
include w
theorem R9.ZJ : (ReflectliteType.relation "AssignableTo" ReflectliteType.assignableTo #[.agg #[NM 13 34], .iface 215 (.agg #[NM 13 34])]).run prog w = .ok (NI true) w := by kernel_rfl
theorem R9.YT : (ReflectliteType.relation "AssignableTo" ReflectliteType.assignableTo #[.agg #[NM 13 150], .iface 215 (.agg #[NM 13 34])]).run prog w = .ok (NI false) w := by kernel_rfl
theorem R9.ajw : (ReflectliteType.relation "AssignableTo" ReflectliteType.assignableTo #[.agg #[NM 13 122], .iface 215 (.agg #[NM 13 34])]).run prog w = .ok (NI false) w := by kernel_rfl
theorem R9.ajx : (ReflectliteType.relation "AssignableTo" ReflectliteType.assignableTo #[.agg #[NM 13 359], .iface 215 (.agg #[NM 13 34])]).run prog w = .ok (NI false) w := by kernel_rfl
theorem R9.Yl : (ReflectliteType.relation "AssignableTo" ReflectliteType.assignableTo #[.agg #[NM 13 122], .iface 215 (.agg #[NM 13 122])]).run prog w = .ok (NI true) w := by kernel_rfl
theorem R9.YU : (ReflectliteType.relation "AssignableTo" ReflectliteType.assignableTo #[.agg #[NM 13 34], .iface 215 (.agg #[NM 13 122])]).run prog w = .ok (NI false) w := by kernel_rfl
theorem R9.Yk : (ReflectliteType.relation "AssignableTo" ReflectliteType.assignableTo #[.agg #[NM 13 359], .iface 215 (.agg #[NM 13 122])]).run prog w = .ok (NI false) w := by kernel_rfl
end
section
variable (h:NP) (w:Ny)
include h w
theorem R9.awR : (Go.method 493 215 (.agg #[h]) "Kind").run prog w = .ok (371, h) w := by kernel_rfl
theorem R9.awS : (Go.method 493 215 (.agg #[h]) "Elem").run prog w = .ok (385, .agg #[h]) w := by kernel_rfl
theorem R9.awT : (Go.method 493 215 (.agg #[h]) "Implements").run prog w = .ok (386, .agg #[h]) w := by kernel_rfl
theorem R9.aoV : (Go.method 493 215 (.agg #[h]) "AssignableTo").run prog w = .ok (383, .agg #[h]) w := by kernel_rfl
end
theorem R9.aoK (a : Addr) (w : Ny) : (Go.method 493 150 (.pointer (some a)) "Unwrap").run prog w = .ok (380, .pointer (some a)) w := by kernel_rfl
end
end Hp
end Go.Proofs.YticfnaiehdpbmaaGreatDoor
