import Derived.Test.YticfnaiehdpbmaaGreatDoorAg3
set_option maxRecDepth 100000
set_option maxHeartbeats 8000000
set_option linter.unusedVariables false
namespace Go.Proofs.YticfnaiehdpbmaaGreatDoor
open Go.RowKit Go.Proofs.Tryz
theorem anT (x:NR)(w:Ny)(h1:1<=x.size)(O:x.size<=10)(hd:∀ i,(ay:i<x.size)->Pz (x[i].toNat:Int)=true) :
  NK 216 #[ND x] w fun e w'=>e=NU (.tuple #[Nr (VU x.data.toList),Pe])/\NJ w w':=by
 have d3:=hide hd;clear hd;go_enter func216,ntmps216;go_wp2_with fail;refine(ajA x w h1 O d3.out).mono ?_;rintro e w1 ⟨rfl,D⟩;go_wp2_with fail
 go_ret2
 exact⟨rfl,D⟩
theorem afS (x:NR):x.data.toList.length=x.size:=by simp
theorem ad1 (p:Int->Bool)(s:NR):∀ n k,n+k=s.size->∀ i,k<=i->i<Oo p s k->(ay:i<s.size)->p (s[i].toNat:Int)=true
 | 0,k,e,i,h1,O,ay=>by omega
 | n+1,k,e,i,h1,O,ay=>by
  cases E:p ((s[k]'Nw).toNat:Int)
  ·rw[abo p s k Nw E] at O;omega
  ·by_cases xF:i=k
   ·subst xF;exact E
   ·rw[<-Xl p s k Nw E] at O;exact ad1 p s n (k+1) Nw i Nw O ay
theorem X9 (s:NR)(a b i:Nat)(h1:b<=s.size)(ay:i<(s.extract a b).size):(s.extract a b)[i]=s[a+i]'(by simp at ay;omega):=by
 simp[ByteArray.getElem_extract]
def rdNum (s:NR)(k:Nat):Rd:=
 if 10<Oo Pz s k - k then .bad 3 k
 else if 1<Oo Pz s k - k/\(((s.data.toList.getD k 0).toNat:Nat):Int)=48 then .bad 3 k
 else if 1000000000<VU (s.extract k (Oo Pz s k)).data.toList then .bad 2 k
 else .tok 3 ⟨#[]⟩ (VU (s.extract k (Oo Pz s k)).data.toList) (Oo Pz s k)
section
variable (s:NR) (k e:Nat) (w:Ny) (ae:s.size<=3000) (E:k<s.size) (au:Oo Pz s k=e) (kT:k<e) (gE:e<=s.size)
include s k e w ae E au kT gE
theorem aeb (kN:10<e - k) :
  NK 143 #[ND s,Nr (k:Int)] w (SA k (.bad 3 k) w):=by
 exact aCN
theorem aec (hpos:0<(s.extract k e).size)(kN:¬ 10<e - k)(h1:1<e - k)(sp:(((s.extract k e)[0].toNat:Int)==48)=true) :
  NK 143 #[ND s,Nr (k:Int)] w (SA k (.bad 3 k) w):=by
 exact aCN
theorem agm (hpos:0<(s.extract k e).size)(n:Int)(aA:VU (s.extract k e).data.toList=n)(kN:¬ 10<e - k)(h1:1<e - k)(sp:(((s.extract k e)[0].toNat:Int)==48)=false)(D:1000000000<n) :
  NK 143 #[ND s,Nr (k:Int)] w (SA k (.bad 2 k) w):=by
 have z:=kk (∀{G}(h:G:=by
 clear hds c9;exact aBb),G);exact aA8
theorem aed (hpos:0<(s.extract k e).size)(n:Int)(aA:VU (s.extract k e).data.toList=n)(kN:¬ 10<e - k)(h1:1<e - k)(sp:(((s.extract k e)[0].toNat:Int)==48)=false)(D:¬ 1000000000<n) :
  NK 143 #[ND s,Nr (k:Int)] w (SA k (.tok 3 ⟨#[]⟩ n e) w):=by
 exact aA7
theorem agn (n:Int)(aA:VU (s.extract k e).data.toList=n)(h1:¬ 1<e - k)(D:¬ 1000000000<n) :
  NK 143 #[ND s,Nr (k:Int)] w (SA k (.tok 3 ⟨#[]⟩ n e) w):=by
 exact aA7
end
theorem ZG (s:NR)(k:Nat)(w:Ny)(ae:s.size<=3000)(E:k<s.size)(hd:Pz (s[k].toNat:Int)=true) :
  NK 143 #[ND s,Nr (k:Int)] w (SA k (rdNum s k) w):=by
 have kT:k<Oo Pz s k:=by rw[<-Xl Pz s k E hd];have:=Ug Pz s (k+1);omega
 have gE:=RZ Pz s k Nw;have c9:=extract_size s k (Oo Pz s k) Nw gE;have hpos:0<(s.extract k (Oo Pz s k)).size:=Nw;have h0:(s.extract k (Oo Pz s k))[0]=s[k]:=by rw[X9 s k _ 0 gE hpos];rfl
 have DK:=at_eq s k E
 by_cases kN:10<Oo Pz s k - k
 ·have U:rdNum s k=.bad 3 k:=by unfold rdNum;rw[if_pos kN]
  rw[U];exact aeb s k _ w ae E rfl kT gE kN
 ·by_cases h1:1<Oo Pz s k - k
  ·by_cases sp:((s[k].toNat:Nat):Int)=48
   ·have U:rdNum s k=.bad 3 k:=by unfold rdNum;rw[if_neg kN,if_pos ⟨h1,by rw[DK];exact sp⟩]
    rw[U];exact aec s k _ w ae E rfl kT gE hpos kN h1 (by rw[h0];exact beq_iff_eq.2 sp)
   ·have h48':(((s.extract k (Oo Pz s k))[0].toNat:Int)==48)=false:=by rw[h0];exact beq_eq_false_iff_ne.2 sp
    have ai:¬ (1<Oo Pz s k - k/\(((s.data.toList.getD k 0).toNat:Nat):Int)=48):=fun h=>sp (by have:=h.2;rw[DK] at this;exact this)
    by_cases D:1000000000<VU (s.extract k (Oo Pz s k)).data.toList
    ·have U:rdNum s k=.bad 2 k:=by unfold rdNum;rw[if_neg kN,if_neg ai,if_pos D]
     rw[U];exact agm s k _ w ae E rfl kT gE hpos _ rfl kN h1 h48' D
    ·have U:rdNum s k=.tok 3 ⟨#[]⟩ (VU (s.extract k (Oo Pz s k)).data.toList) (Oo Pz s k):=by unfold rdNum;rw[if_neg kN,if_neg ai,if_neg D]
     rw[U];exact aed s k _ w ae E rfl kT gE hpos _ rfl kN h1 h48' D
  ·have ai:¬ (1<Oo Pz s k - k/\(((s.data.toList.getD k 0).toNat:Nat):Int)=48):=fun h=>h1 h.1;have hds:∀ b ∈ (s.extract k (Oo Pz s k)).data.toList,Pz (b.toNat:Int)=true:=by
    exact awY
   have b4:=(XW _ hds).2;have hl:(s.extract k (Oo Pz s k)).data.toList.length=1:=by rw[afS];omega
   rw[hl] at b4;have D:¬ 1000000000<VU (s.extract k (Oo Pz s k)).data.toList:=Nw;have U:rdNum s k=.tok 3 ⟨#[]⟩ (VU (s.extract k (Oo Pz s k)).data.toList) (Oo Pz s k):=by unfold rdNum;rw[if_neg kN,if_neg ai,if_neg D]
   rw[U];exact agn s k _ w ae E rfl kT gE _ rfl h1 D
end Go.Proofs.YticfnaiehdpbmaaGreatDoor
