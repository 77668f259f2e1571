import Derived.Test.YticfnaiehdpbmaaGreatDoorSt3
import Derived.ChangeAlike
import Derived.Deep.DrawnRows
set_option maxRecDepth 100000
set_option maxHeartbeats 8000000
set_option linter.all false
namespace Go.Proofs.YticfnaiehdpbmaaGreatDoor
open Go.RowKit Go.Proofs.Tryz
def aqb (x:Ou)(w:Og)(h1:1<=x.size)(U:x.size<=10)(hd:∀ i,(az:i<x.size)->Qe (x[i].toNat:Int)=true) :
  Oq 216 #[Oj x] w fun e w'=>e=OA (.tuple #[NY (Xe x.data.toList),Qd])/\Oo w w':=by
 have d7:=hide hd;clear hd;go_enter func216,ntmps216;go_wp2_with fail;refine(alx x w h1 U d7.out).mono ?_;rintro e w1 ⟨rfl,A⟩;go_wp2
 go_ret2
 exact⟨rfl,A⟩
def ahk (x:Ou):x.data.toList.length=x.size:=by simp
def afg (p:Int->Bool)(s:Ou):∀ n k,n+k=s.size->∀ i,k<=i->i<OC p s k->(az:i<s.size)->p (s[i].toNat:Int)=true
 | 0,k,e,i,h1,U,az=>by omega
 | n+1,k,e,i,h1,U,az=>by
  cases E:p ((s[k]'Oe).toNat:Int)
  ·rw[acn p s k Oe E] at U;omega
  ·by_cases ya:i=k
   ·subst ya;exact E
   ·rw[<-Yh p s k Oe E] at U;exact afg p s n (k+1) Oe i Oe U az
def Y8 (s:Ou)(a b i:Nat)(h1:b<=s.size)(az:i<(s.extract a b).size):(s.extract a b)[i]=s[a+i]'(by simp at az;omega):=by
 simp[ByteArray.getElem_extract]
def rdNum (s:Ou)(k:Nat):Rd:=
 if 10<OC Qe s k - k then .bad 3 k
 else if 1<OC Qe s k - k/\(((s.data.toList.getD k 0).toNat:Nat):Int)=48 then .bad 3 k
 else if 1000000000<Xe (s.extract k (OC Qe s k)).data.toList then .bad 2 k
 else .tok 3 ⟨#[]⟩ (Xe (s.extract k (OC Qe s k)).data.toList) (OC Qe s k)
section
variable (s:Ou) (k e:Nat) (w:Og) (ab:s.size<=3000) (E:k<s.size) (ao:OC Qe s k=e) (kX:k<e) (gJ:e<=s.size)
include s k e w ab E ao kX gJ
def afr (kU:10<e - k) :
  Oq 143 #[Oj s,NY (k:Int)] w (Uf k (.bad 3 k) w):=aFc
def afs (hpos:0<(s.extract k e).size)(kU:¬ 10<e - k)(h1:1<e - k)(sK:(((s.extract k e)[0].toNat:Int)==48)=true) :
  Oq 143 #[Oj s,NY (k:Int)] w (Uf k (.bad 3 k) w):=aFc
def ahK (hpos:0<(s.extract k e).size)(n:Int)(ax:Xe (s.extract k e).data.toList=n)(kU:¬ 10<e - k)(h1:1<e - k)(sK:(((s.extract k e)[0].toNat:Int)==48)=false)(A:1000000000<n) :
  Oq 143 #[Oj s,NY (k:Int)] w (Uf k (.bad 2 k) w):=by
 have z:=N8 (∀{G}(h:G:=by
 clear hds da;exact axR),G);exact aDw
def aft (hpos:0<(s.extract k e).size)(n:Int)(ax:Xe (s.extract k e).data.toList=n)(kU:¬ 10<e - k)(h1:1<e - k)(sK:(((s.extract k e)[0].toNat:Int)==48)=false)(A:¬ 1000000000<n) :
  Oq 143 #[Oj s,NY (k:Int)] w (Uf k (.tok 3 ⟨#[]⟩ n e) w):=aDv
def ahL (n:Int)(ax:Xe (s.extract k e).data.toList=n)(h1:¬ 1<e - k)(A:¬ 1000000000<n) :
  Oq 143 #[Oj s,NY (k:Int)] w (Uf k (.tok 3 ⟨#[]⟩ n e) w):=aDv
end
def aaH (s:Ou)(k:Nat)(w:Og)(ab:s.size<=3000)(E:k<s.size)(hd:Qe (s[k].toNat:Int)=true) :
  Oq 143 #[Oj s,NY (k:Int)] w (Uf k (rdNum s k) w):=by
 have kX:k<OC Qe s k:=by rw[<-Yh Qe s k E hd];have:=TU Qe s (k+1);omega
 have gJ:=QU Qe s k Oe;have da:=extract_size s k (OC Qe s k) Oe gJ;have hpos:0<(s.extract k (OC Qe s k)).size:=Oe;have h0:(s.extract k (OC Qe s k))[0]=s[k]:=by rw[Y8 s k _ 0 gJ hpos];rfl
 have DP:=at_eq s k E
 by_cases kU:10<OC Qe s k - k
 ·have aa:rdNum s k=.bad 3 k:=by unfold rdNum;rw[if_pos kU]
  rw[aa];exact afr s k _ w ab E rfl kX gJ kU
 ·by_cases h1:1<OC Qe s k - k
  ·by_cases sK:((s[k].toNat:Nat):Int)=48
   ·have aa:rdNum s k=.bad 3 k:=by unfold rdNum;rw[if_neg kU,if_pos ⟨h1,by rw[DP];exact sK⟩]
    rw[aa];exact afs s k _ w ab E rfl kX gJ hpos kU h1 (by rw[h0];exact beq_iff_eq.2 sK)
   ·have h48':(((s.extract k (OC Qe s k))[0].toNat:Int)==48)=false:=by rw[h0];exact beq_eq_false_iff_ne.2 sK
    have ai:¬ (1<OC Qe s k - k/\(((s.data.toList.getD k 0).toNat:Nat):Int)=48):=fun h=>sK (by have:=h.2;rw[DP] at this;exact this)
    by_cases A:1000000000<Xe (s.extract k (OC Qe s k)).data.toList
    ·have aa:rdNum s k=.bad 2 k:=by unfold rdNum;rw[if_neg kU,if_neg ai,if_pos A]
     rw[aa];exact ahK s k _ w ab E rfl kX gJ hpos _ rfl kU h1 h48' A
    ·have aa:rdNum s k=.tok 3 ⟨#[]⟩ (Xe (s.extract k (OC Qe s k)).data.toList) (OC Qe s k):=by unfold rdNum;rw[if_neg kU,if_neg ai,if_neg A]
     rw[aa];exact aft s k _ w ab E rfl kX gJ hpos _ rfl kU h1 h48' A
  ·have ai:¬ (1<OC Qe s k - k/\(((s.data.toList.getD k 0).toNat:Nat):Int)=48):=fun h=>h1 h.1;have hds:∀ b ∈ (s.extract k (OC Qe s k)).data.toList,Qe (b.toNat:Int)=true:=azo
   have bZ:=(YU _ hds).2;have hl:(s.extract k (OC Qe s k)).data.toList.length=1:=by rw[ahk];omega
   rw[hl] at bZ;have A:¬ 1000000000<Xe (s.extract k (OC Qe s k)).data.toList:=Oe;have aa:rdNum s k=.tok 3 ⟨#[]⟩ (Xe (s.extract k (OC Qe s k)).data.toList) (OC Qe s k):=by unfold rdNum;rw[if_neg kU,if_neg ai,if_neg A]
   rw[aa];exact ahL s k _ w ab E rfl kX gJ _ rfl h1 A
def Tc (aY gs:List Ou)(s:Ou)(k:Nat):Rd:=
 if aa0 ((bt s k).toNat:Int)=true then SG aY s k
 else if Qe ((bt s k).toNat:Int)=true then rdNum s k
 else if bt s k=39 then rdStr s k
 else TL gs s k
structure Lists (aY gs:List Ou)(w:Og):Prop where
 lw:aY.length=19
 lg:gs.length=19
 zg:∀ i,i<19->(gs.getD i ByteArray.empty).size<=3
 hw:∃ t fr,w.heap[6]? = some (.cells (aY.map Value.string).toArray t fr)
 hg:∃ t fr,w.heap[2]? = some (.cells (gs.map Value.string).toArray t fr)
def Lists.lt {aY gs:List Ou}{w:Og}(h:Lists aY gs w):6<w.heap.size:=by
 obtain⟨t,fr,hg⟩:=h.hw;exact(Array.getElem?_eq_some_iff.1 hg).1
def Lists.later {aY gs:List Ou}{w w':Og}(h:Lists aY gs w)(A:Oo w w'):Lists aY gs w':=by
 obtain⟨t,fr,hw⟩:=h.hw;obtain⟨t2,vR,hg⟩:=h.hg;have hl:=(Array.getElem?_eq_some_iff.1 hw).1;have f8:=(Array.getElem?_eq_some_iff.1 hg).1;exact⟨h.lw,h.lg,h.zg,⟨t,fr,by rw[A.block 6 Oe];exact hw⟩,⟨t2,vR,by rw[A.block 2 Oe];exact hg⟩⟩
section
variable (aY gs:List Ou) (s:Ou) (k:Nat) (kd n:Int) (tx:Ou) (e:Nat) (w:Og) (ab:s.size<=3000) (E:k<s.size) (dA:Lists aY gs w)
include aY gs s k kd n tx e w ab E dA
def afu (hl:aa0 (s[k].toNat:Int)=true)(aa:SG aY s k=.tok kd tx n e) :
  Oq 68 #[Oj s,NY (k:Int)] w (Uf k (.tok kd tx n e) w):=by
 have z:=N8 (∀{G}(h:G:=by
 have z:=N8 (∀{G}(h:G:=by
 rintro kj ce ⟨rfl,fm⟩;have nU:=hbel.trans (fm.mono hbel.size);exact aDH),G);exact aE3),G);exact aEj
def ahN (hl:aa0 (s[k].toNat:Int)=false)(hd:Qe (s[k].toNat:Int)=true)(aa:rdNum s k=.tok kd tx n e) :
  Oq 68 #[Oj s,NY (k:Int)] w (Uf k (.tok kd tx n e) w):=by
 have z:=N8 (∀{G}(h:G:=by
 have gf:=aaH s k bD ab E d7.out;rw[dy.out] at gf;refine cm gf ?_;exact ayk),G);exact zsr
def ahO (hl:aa0 (s[k].toNat:Int)=false)(hd:Qe (s[k].toNat:Int)=false)(ag:(((s[k].toNat:Nat):Int)==39)=true)(aa:rdStr s k=.tok kd tx n e) :
  Oq 68 #[Oj s,NY (k:Int)] w (Uf k (.tok kd tx n e) w):=by
 have z:=N8 (∀{G}(h:G:=by
 have gf:=aaI s k bD ab E;rw[dy.out] at gf;refine cm gf ?_;exact ayk),G);exact zsr
def afv (hl:aa0 (s[k].toNat:Int)=false)(hd:Qe (s[k].toNat:Int)=false)(ag:(((s[k].toNat:Nat):Int)==39)=false)(aa:TL gs s k=.tok kd tx n e) :
  Oq 68 #[Oj s,NY (k:Int)] w (Uf k (.tok kd tx n e) w):=by
 have z:=N8 (∀{G}(h:G:=by
 have z:=N8 (∀{G}(h:G:=by
 clear hg;exact ayk),G);exact aE4),G);exact zsr
end
section
variable (aY gs:List Ou) (s:Ou) (k:Nat) (er:Int) (p:Nat) (w:Og) (ab:s.size<=3000) (E:k<s.size) (dA:Lists aY gs w)
include aY gs s k er p w ab E dA
def ado (hl:aa0 (s[k].toNat:Int)=true)(aa:SG aY s k=.bad er p) :
  Oq 68 #[Oj s,NY (k:Int)] w (Uf k (.bad er p) w):=by
 have z:=N8 (∀{G}(h:G:=by
 have z:=N8 (∀{G}(h:G:=by
 rintro kj ce ⟨b,rfl,A,jw,Ao⟩;have nU:=hbel.trans (Ao.mono hbel.size);have rz:=Nat.le_trans hbel.size jw;exact aDE),G);exact aE3),G);exact aEj
def afw (hl:aa0 (s[k].toNat:Int)=false)(hd:Qe (s[k].toNat:Int)=true)(aa:rdNum s k=.bad er p) :
  Oq 68 #[Oj s,NY (k:Int)] w (Uf k (.bad er p) w):=by
 have z:=N8 (∀{G}(h:G:=by
 have gf:=aaH s k bD ab E d7.out;rw[dy.out] at gf;refine cm gf ?_;exact axT),G);exact zsr
def afx (hl:aa0 (s[k].toNat:Int)=false)(hd:Qe (s[k].toNat:Int)=false)(ag:(((s[k].toNat:Nat):Int)==39)=true)(aa:rdStr s k=.bad er p) :
  Oq 68 #[Oj s,NY (k:Int)] w (Uf k (.bad er p) w):=by
 have z:=N8 (∀{G}(h:G:=by
 have gf:=aaI s k bD ab E;rw[dy.out] at gf;refine cm gf ?_;exact axT),G);exact zsr
def adp (hl:aa0 (s[k].toNat:Int)=false)(hd:Qe (s[k].toNat:Int)=false)(ag:(((s[k].toNat:Nat):Int)==39)=false)(aa:TL gs s k=.bad er p) :
  Oq 68 #[Oj s,NY (k:Int)] w (Uf k (.bad er p) w):=by
 have z:=N8 (∀{G}(h:G:=by
 have z:=N8 (∀{G}(h:G:=by
 clear hg;exact axT),G);exact aE4),G);exact zsr
end
def ahP (aY gs:List Ou)(s:Ou)(k:Nat)(w:Og)(ab:s.size<=3000)(E:k<s.size)(dA:Lists aY gs w) :
  Oq 68 #[Oj s,NY (k:Int)] w (Uf k (Tc aY gs s k) w):=by
 have e1:=alg s k E;have A:=Xz s[k] 39;unfold Tc;rw[e1]
 cases hl:aa0 (s[k].toNat:Int)
 ·rw[if_neg OW]
  cases hd:Qe (s[k].toNat:Int)
  ·rw[if_neg OW]
   by_cases ag:s[k]=39
   ·rw[if_pos ag];have eX:(((s[k].toNat:Nat):Int)==39)=true:=by rw[ag];rfl
    cases aa:rdStr s k with
    | tok kd tx n e=>exact ahO aY gs s k kd n tx e w ab E dA hl hd eX aa
    | bad er p=>exact afx aY gs s k er p w ab E dA hl hd eX aa
   ·rw[if_neg ag];have eX:(((s[k].toNat:Nat):Int)==39)=false:=by rw[show (39:Int)=(((39:UInt8).toNat:Nat):Int) from rfl,A];simp[ag]
    cases aa:TL gs s k with
    | tok kd tx n e=>exact afv aY gs s k kd n tx e w ab E dA hl hd eX aa
    | bad er p=>exact adp aY gs s k er p w ab E dA hl hd eX aa
  ·rw[if_pos rfl]
   cases aa:rdNum s k with
   | tok kd tx n e=>exact ahN aY gs s k kd n tx e w ab E dA hl hd aa
   | bad er p=>exact afw aY gs s k er p w ab E dA hl hd aa
 ·rw[if_pos rfl]
  cases aa:SG aY s k with
  | tok kd tx n e=>exact afu aY gs s k kd n tx e w ab E dA hl aa
  | bad er p=>exact ado aY gs s k er p w ab E dA hl aa
structure Tk where
 kd:Int
 tx:Ou
 n:Int
 pl:Nat
inductive TR where
 | ok (l:List Tk)
 | bad (er:Int) (p:Nat)
def Q7 (aY gs:List Ou)(s:Ou)(i:Nat)(aX:List Tk):TR:=
 if h:i<s.size then
  match Tc aY gs s i with
  | .tok kd tx n e=>if U:i<e then Q7 aY gs s (OC PU s e) (aX++[⟨kd,tx,n,i⟩]) else .bad 0 0
  | .bad er p=>.bad er p
 else .ok (aX++[⟨6,⟨#[]⟩,0,s.size⟩])
termination_by s.size - i
decreasing_by
 have:=TU PU s e;omega
section
variable (aY gs:List Ou) (s:Ou) (i:Nat) (aX:List Tk)
include aY gs s i aX
def TD (h:¬ i<s.size):Q7 aY gs s i aX=.ok (aX++[⟨6,⟨#[]⟩,0,s.size⟩]):=by rw[Q7,dif_neg h]
def WH (er:Int)(p:Nat)(h:i<s.size)(aa:Tc aY gs s i=.bad er p):Q7 aY gs s i aX=.bad er p:=by rw[Q7,dif_pos h,aa]
def P5 (kd n:Int)(tx:Ou)(e:Nat)(h:i<s.size)(aa:Tc aY gs s i=.tok kd tx n e)(ao:i<e):Q7 aY gs s i aX=Q7 aY gs s (OC PU s e) (aX++[⟨kd,tx,n,i⟩]):=by
 conv=>lhs;rw[Q7]
 rw[dif_pos h,aa];simp only;rw[dif_pos ao]
end
def ah0 (s:Ou):∀ n i said l e,s.size - i=n->UE s i said=.ok l e->i<e/\e<=s.size/\l.length<=said.length+(s.size - i):=by
 intro n
 induction n using Nat.strongRecOn with
 | ind n bv=>
  intro i said l e ax h
  by_cases aM:i<s.size
  ·by_cases c1:bt s i=39
   ·rw[Xt s i said aM c1] at h;cases h;exact⟨by omega,by omega,by omega⟩
   ·by_cases c2:bt s i=10
    ·rw[aff s i said aM c2] at h;cases h
    ·by_cases c3:bt s i=92
     ·by_cases h1:i+1<s.size
      ·
       cases aR:esc (bt s (i+1)) with
       | none=>rw[U9 s i said aM c3 (fun _=>aR)] at h;cases h
       | some m=>
        rw[ZJ s i said m aM c3 h1 aR] at h;have:=bv (s.size - (i+2)) Oe (i+2) _ l e rfl h;rw[List.length_append,List.length_singleton] at this;omega
      ·rw[U9 s i said aM c3 (fun hh=>absurd hh h1)] at h;cases h
     ·rw[Xu s i said aM c1 c2 c3] at h;have:=bv (s.size - (i+1)) Oe (i+1) _ l e rfl h;rw[List.length_append,List.length_singleton] at this;omega
  ·rw[acr s i said aM] at h;cases h
def VP (aY gs:List Ou)(s:Ou)(k:Nat)(kd n:Int)(tx:Ou)(e:Nat)(E:k<s.size)(hg:∀ g ∈ gs,1<=g.size)
  (h:Tc aY gs s k=.tok kd tx n e):k<e/\e<=s.size:=by
 have e1:=alg s k E;unfold Tc at h;rw[e1] at h
 split at h
 ·rename_i hl
  have IP:Vt (s[k].toNat:Int)=true:=by unfold Vt;rw[hl];rfl
  have h1:=Yh Vt s k E IP;have U:=TU Vt s (k+1);have av:=QU Vt s k Oe;unfold SG at h
  split at h
  ·
   cases h;omega
  ·split at h
   ·
    cases h
   ·
    cases h;omega
 ·split at h
  ·rename_i hd
   have h1:=Yh Qe s k E hd;have U:=TU Qe s (k+1);have av:=QU Qe s k Oe;unfold rdNum at h
   split at h
   ·
    cases h
   ·split at h
    ·
     cases h
    ·split at h
     ·
      cases h
     ·
      cases h;omega
  ·split at h
   ·unfold rdStr at h
    cases aa:UE s (k+1) [] with
    | ok said ht=>
     rw[aa] at h;simp only at h;have A:=ah0 s _ (k+1) [] said ht rfl aa
     split at h
     ·
      cases h
     ·
      cases h;omega
    | bad p=>rw[aa] at h;cases h
   ·unfold TL at h
    cases aF:gs.find? (fun g=>Yz (s.extract k s.size) g) with
    | none=>rw[aF] at h;cases h
    | some g=>
     rw[aF] at h;have⟨_,_,_,ao⟩:=Rd.tok.inj h;have aR:=List.mem_of_find?_eq_some aF;have al:=List.find?_some aF;have h1:=hg g aR;simp only[Yz,Bool.and_eq_true,decide_eq_true_eq] at al;have aH:=extract_size s k s.size Oe Pg;omega
def Ws (t:Tk):List Ot:=[NY t.kd,Oj t.tx,NY t.n,NY (t.pl:Int)]
def QT (l:List Tk):List Ot:=l.flatMap Ws
def YS (l:List Tk)(t:Tk):QT (l++[t])=QT l++Ws t:=by simp[QT]
def ak4 (r:TR)(w:Og)(e:Ending)(w':Og):Prop:=
 match r with
 | .ok l=>∃ v,e=OA (.tuple #[v,.nilIface])/\w'.ownsRow w.heap.size 144 4 v l.length (QT l)/\Oo w w'
 | .bad er p=>∃ b,e=OA (.tuple #[.slice none 0 0,.iface 150 (Oy b 0)])/\w'.heap[b]? = some (OM #[NY er,NY (p:Int)] 152)/\w.heap.size<=b/\Oo w w'
def ayS:(prog.info? 144).map (fun i=>(i.zero,i.size,i.bytes))=some (some YP,4,40):=by kernel_rfl
def ajW {wr aq:Og}{B:Nat}{v:Ot}{n:Nat}{xs:List Ot}(A:Oo wr aq)(h:wr.ownsRow B 144 4 v n xs):aq.ownsRow B 144 4 v n xs:=by
 obtain⟨hl,h0|⟨g,cap,ck,am,pM,hh,aa⟩⟩:=h
 ·exact⟨hl,Or.inl h0⟩
 ·exact⟨hl,Or.inr ⟨g,cap,ck,am,pM,by rw[A.block g (Array.getElem?_eq_some_iff.1 hh).1];exact hh,aa⟩⟩
def ang {w:Og}{B B':Nat}{v:Ot}{n:Nat}{xs:List Ot}(A:B'<=B)(h:w.ownsRow B 144 4 v n xs):w.ownsRow B' 144 4 v n xs:=by
 obtain⟨hl,h0|⟨g,cap,ck,am,pM,aa⟩⟩:=h
 ·exact⟨hl,Or.inl h0⟩
 ·exact⟨hl,Or.inr ⟨g,cap,ck,am,by omega,aa⟩⟩
def ad7 {B:Nat}{ep k5 w1:Og}{v:Ot}{n:Nat}{xs:List Ot}(a1:Below B ep k5)(da:B<=k5.heap.size)(hown:k5.ownsRow B 144 4 v n xs)(hg:k5.grownBy w1 v.ownBlock) :
  Below B ep w1:=a1.grown hg da (fun k E=>by
  obtain⟨_,⟨rfl,_⟩|⟨g,cap,ck,rfl,pM,_⟩⟩:=hown
  ·simp[Value.ownBlock] at E
  ·simp[Value.ownBlock] at E;omega)
def ahu (s:Ou)(w:Og)(ab:3000<s.size) :
  Oq 33 #[Oj s] w fun e w'=>e=OA (.tuple #[Qv,.iface 34 (NY 4)])/\w'=w:=by
 go_enter func33,ntmps33
 go_wp2
 go_ret2
 exact⟨rfl,rfl⟩
def ajB (aY gs:List Ou)(s:Ou)(w:Og)(ab:s.size<=3000)(dA:Lists aY gs w)(j6:∀ g ∈ gs,1<=g.size) :
  Oq 33 #[Oj s] w (ak4 (Q7 aY gs s (OC PU s 0) []) w):=by
 have⟨i0,az,dw,b8,cn⟩:=info_parts ayS;obtain⟨r,aa⟩:∃ r,Q7 aY gs s (OC PU s 0) []=r:=⟨_,rfl⟩;have dy:=hide aa;rw[aa];have FN:=hide j6;clear aa j6;go_enter func33,ntmps33;go_wp2_with fail;refine(adT _ _).mono ?_;rintro aw w1 ⟨x,rfl,ac,hbel⟩;have dT:=(ac.congr aty);go_wp2_with fail;refine(Yi s 0 x PU w1 (by unfold maxLen;omega) (Nat.zero_le _) dT).mono ?_
 rintro bi w2 ⟨rfl,rfl⟩;have n6:=QU PU s 0 (Nat.zero_le _);obtain⟨aU,al⟩:∃ aU,OC PU s 0=aU:=⟨_,rfl⟩;rw[al] at n6 ⊢;have bq:Hid (Q7 aY gs s aU []=r):=by show _=_;rw[<-al];exact NZ dy
 clear al;go_wp2_with fail
 go_loopw [5,6,7,8,9] (fun v i _ _ _ wr=>∃ (j:Nat) (aX:List Tk),j<=s.size/\aX.length<=j/\i=NY j/\Q7 aY gs s j aX=r/\wr.ownsRow w2.heap.size 144 4 v aX.length (QT aX)/\Oo w2 wr/\w2.heap.size<=wr.heap.size) (fun _ i _ _ _ _=>s.size - (intOf i).toNat)
 case atStart=>exact⟨aU,[],n6,by simp,rfl,bq.out,World.ownsRow_nil _ _ _ _,QI,Pg⟩
 case round=>
  obtain⟨j,aX,aS,oM,rfl,ao,hown,a1,da⟩:=hrel;have dB:=hide ao;clear ao;have Dp:=(dA.later hbel).later a1
  by_cases aM:j<s.size
  ·
   cases ba:Tc aY gs s j with
   | tok kd tx n e=>
    have A:=VP aY gs s j kd n tx e aM FN.out ba;have ha:=hide ((P5 aY gs s j aX kd n tx e aM ba A.1).symm.trans dB.out);have hU:=hide ba;obtain⟨bZ,aE⟩:=A;clear ba;go_wp2_with fail;have hread:=ahP aY gs s j wr ab aM Dp;rw[hU.out] at hread;refine cm hread ?_;rintro d4 aq ⟨rfl,bn⟩;have Dj:=a1.trans (bn.mono da);have dG:=Dj;have Cs:=(ajW bn hown);have hsz3:w2.heap.size<=aq.heap.size:=Dj.size
    go_wp2_with (at_builtin;refine wpList_append_own _ rfl _ _ 88 rfl w2.heap.size 144 i0 YP 4 40 underlying88 az dw b8 cn rfl Ol _ _ _ rfl ((Cs.alloc _).alloc _) (N9 (aq.heap.size+1) 0) 1 1 [NY kd,Oj tx,NY n,NY (j:Int)] rfl rfl ?c1 ?c2 ?c3 ?c4 ?c5 ?_)
    case c1=>
     exact aDT
    case c2=>
     intro u aQ;simp only[List.mem_cons,List.not_mem_nil,or_false] at aQ
     rcases aQ with rfl|rfl|rfl|rfl <;> rfl
    case c3=>unfold maxLen;omega
    case c4=>omega
    case c5=>simp;omega
    intro v' ce hown' hgrow _;have z8:=ad7 ((dG.alloc hsz3 _).alloc QY _) QY ((Cs.alloc _).alloc _) hgrow;have iu:=z8;have zj:ce.ownsRow w2.heap.size 144 4 v' (aX++[Tk.mk kd tx n j]).length (QT (aX++[Tk.mk kd tx n j])):=by
     show World.ownsRow _ _ _ _ _ _ _
     rw[YS,List.length_append];exact hown'
    have pM:=TU PU s e;have gh:=QU PU s e aE;obtain⟨ht,un⟩:∃ ht,OC PU s e=ht:=⟨_,rfl⟩;rw[un] at pM gh;have B2:=hide un;clear un;go_wp2_with fail;have hpast:=Yi s e x PU ce (by unfold maxLen;omega) aE (dT.later iu)
    rw[B2.out] at hpast;refine hpast.mono ?_;rintro vL ch ⟨rfl,rfl⟩;go_wp2
    go_roundw
    case rel=>exact⟨ht,aX++[Tk.mk kd tx n j],gh,by simp;omega,rfl,by have:=NZ ha;rw[B2.out] at this;exact this,zj,iu,iu.size⟩
    case measure=>simp[intOf];omega
   | bad er p=>
    have ag:r=.bad er p:=by rw[<-dB.out,WH aY gs s j aX er p aM ba]
    have hU:=hide ba;clear ba;subst ag;go_wp2_with fail;have hread:=ahP aY gs s j wr ab aM Dp;rw[hU.out] at hread;refine cm hread ?_;rintro d4 aq ⟨b,rfl,A,jw,bn⟩;have hQ:=hide A;have dG:=(a1.trans (bn.mono da));have hsz3:=Nat.le_trans da bn.size;have rz:=Nat.le_trans da jw;clear A;go_wp2
    go_ret2
    have dn:=hbel;refine⟨b,rfl,?_,Nat.le_trans dn.size rz,(dn.trans (dG.mono dn.size)).alloc (Nat.le_trans dn.size hsz3) _⟩;rw[Below.heap_alloc aq _ b (Array.getElem?_eq_some_iff.1 hQ.out).1];exact NZ hQ
  ·have ag:r=.ok (aX++[Tk.mk 6 ⟨#[]⟩ 0 s.size]):=by rw[<-dB.out,TD aY gs s j aX aM]
   subst ag
   go_wp2_with (at_builtin;refine wpList_append_own _ rfl _ _ 88 rfl w2.heap.size 144 i0 YP 4 40 underlying88 az dw b8 cn rfl Ol _ _ _ rfl (hown.alloc _) (N9 wr.heap.size 0) 1 1 [NY 6,Pm,NY 0,NY (s.size:Int)] rfl rfl ?c1 ?c2 ?c3 ?c4 ?c5 ?_)
   case c1=>
    exact aDT
   case c2=>
    intro u aQ;simp only[List.mem_cons,List.not_mem_nil,or_false] at aQ
    rcases aQ with rfl|rfl|rfl|rfl <;> rfl
   case c3=>unfold maxLen;omega
   case c4=>omega
   case c5=>simp;omega
   intro v' ce hown' hgrow _;have z8:=ad7 (a1.alloc da _) QY (hown.alloc _) hgrow;have iu:=z8;have zj:ce.ownsRow w2.heap.size 144 4 v' (aX++[Tk.mk 6 ⟨#[]⟩ 0 s.size]).length (QT (aX++[Tk.mk 6 ⟨#[]⟩ 0 s.size])):=by
    show World.ownsRow _ _ _ _ _ _ _
    rw[YS,List.length_append];exact hown'
   go_wp2
   go_ret2
   have dn:=hbel;exact⟨v',rfl,ang dn.size zj,dn.trans (iu.mono dn.size)⟩
inductive Tr where
 | mk (kd:Int) (tx:Ou) (n:Int) (kids:List Tr)
def Tr.kd:Tr->Int | .mk k _ _ _=>k
def Tr.tx:Tr->Ou | .mk _ t _ _=>t
def Tr.n:Tr->Int | .mk _ _ n _=>n
def Tr.kids:Tr->List Tr | .mk _ _ _ l=>l
inductive PR (α:Type) where
 | ok (x:α) (i:Nat)
 | bad (er:Int) (p:Nat)
 | out
def PR.bind {α β:Type}:PR α->(α->Nat->PR β)->PR β
 | .ok x i,f=>f x i
 | .bad er p,_=>.bad er p
 | .out,_=>.out
abbrev Oh:Ou:=⟨#[]⟩
abbrev anQ:Ou:=⟨#[118,97,114]⟩
abbrev avE:Ou:=⟨#[108,101,116]⟩
abbrev aib:Ou:=⟨#[99,111,110,115,116]⟩
abbrev P7:Ou:=⟨#[102,117,110,99,116,105,111,110]⟩
abbrev tIf:Ou:=⟨#[105,102]⟩
abbrev af6:Ou:=⟨#[101,108,115,101]⟩
abbrev aic:Ou:=⟨#[119,104,105,108,101]⟩
abbrev anR:Ou:=⟨#[119,105,116,104]⟩
abbrev aed:Ou:=⟨#[114,101,116,117,114,110]⟩
abbrev aie:Ou:=⟨#[116,104,114,111,119]⟩
abbrev abu:Ou:=⟨#[116,114,121]⟩
abbrev VA:Ou:=⟨#[99,97,116,99,104]⟩
abbrev Ru:Ou:=⟨#[102,105,110,97,108,108,121]⟩
abbrev arS:Ou:=⟨#[116,121,112,101,111,102]⟩
abbrev arT:Ou:=⟨#[100,101,108,101,116,101]⟩
abbrev abv:Ou:=⟨#[116,114,117,101]⟩
abbrev YV:Ou:=⟨#[102,97,108,115,101]⟩
abbrev akd:Ou:=⟨#[110,117,108,108]⟩
abbrev avF:Ou:=⟨#[117,110,100,101,102,105,110,101,100]⟩
abbrev RP:Ou:=⟨#[40]⟩
abbrev TV:Ou:=⟨#[41]⟩
abbrev TG:Ou:=⟨#[123]⟩
abbrev Wi:Ou:=⟨#[125]⟩
abbrev PY:Ou:=⟨#[59]⟩
abbrev abw:Ou:=⟨#[44]⟩
abbrev aee:Ou:=⟨#[58]⟩
abbrev arU:Ou:=⟨#[46]⟩
abbrev tEq:Ou:=⟨#[61]⟩
abbrev tOr:Ou:=⟨#[124,124]⟩
abbrev aGo:Ou:=⟨#[38,38]⟩
abbrev azU:Ou:=⟨#[61,61,61]⟩
abbrev azV:Ou:=⟨#[60]⟩
abbrev aGp:Ou:=⟨#[43]⟩
abbrev aGq:Ou:=⟨#[45]⟩
abbrev avG:Ou:=⟨#[42]⟩
abbrev aGr:Ou:=⟨#[33]⟩
abbrev TF:Ou:=⟨#[115,116,114,105,99,116]⟩
abbrev aaP:Ou:=⟨#[117,115,101,32,115,116,114,105,99,116]⟩
structure Sg where
 tx:Ou
 kd:Int
 parts:Int
 str:Int
def sgs:List Sg:=[⟨tOr,25,2,2⟩,⟨aGo,26,2,3⟩,⟨azU,27,2,4⟩,⟨azV,28,2,5⟩,⟨aGp,29,2,6⟩,⟨aGq,30,2,6⟩,⟨avG,31,2,7⟩,⟨aGr,32,1,8⟩,⟨arS,33,1,8⟩,⟨arT,34,1,8⟩,⟨abv,19,0,10⟩,⟨YV,20,0,10⟩,⟨akd,21,0,10⟩,⟨avF,22,0,10⟩]
def hds:List (Ou × Int):=[(anQ,2),(avE,3),(aib,4),(tIf,7),(aic,8),(anR,9),(aed,10),(aie,11)]
def Un:List (Ou × Nat):=[(anQ,0),(avE,0),(aib,0),(P7,1),(TG,2),(PY,3),(tIf,4),(aic,5),(anR,5),(aed,6),(aie,6),(abu,7)]
def SE:List (Ou × Nat):=[(RP,0),(TG,1),(P7,2)]
def QC {β:Type}(l:List (Ou × β))(s:Ou):Option β:=(l.find? (fun e=>decide (s=e.1))).map (·.2)
def Zn (s:Ou):Option Sg:=sgs.find? (fun e=>decide (s=e.tx))
def ZQ (k:Int)(s:Ou):Option Sg:=(Zn s).filter (fun e=>e.parts==k)
def Ql (s:Ou):Int:=(QC hds s).getD 0
section
variable (l:List Tk)
def OX (i:Nat):Tk:=l.getD i ⟨6,Oh,0,0⟩
def fx (i:Nat):Ou:=if (OX l i).kd==2||(OX l i).kd==5 then (OX l i).tx else Oh
def UF {α:Type}(er:Int)(i:Nat):PR α:=.bad er (OX l i).pl
def O6 (s:Ou)(i:Nat):PR Unit:=if fx l i=s then .ok () (i+1) else UF l 3 i
def nameP (i:Nat):PR Ou:=if (OX l i).kd=1 then .ok (OX l i).tx (i+1) else UF l 3 i
def Pn (f:Nat->Nat->PR Tr)(d i:Nat):PR Tr:=if d=30 then UF l 4 i else f (d+1) i
def isName (i:Nat):Bool:=(OX l i).kd==1
def isVal (i:Nat):Bool:=(OX l i).kd==1||(OX l i).kd==3||(OX l i).kd==4||(QC SE (fx l i)).isSome||((Zn (fx l i)).filter (fun e=>decide (e.parts<2))).isSome
structure Sv where
 fuel:Nat
 st:Nat->Nat->PR Tr
 vl:Nat->Nat->PR Tr
 pr:Int->Nat->Nat->PR Tr
 sg:Nat->Nat->PR Tr
def azW:Sv:=⟨0,fun _ _=>.out,fun _ _=>.out,fun _ _ _=>.out,fun _ _=>.out⟩
def Rx (shut:Ou)(begins:Nat->Bool)(part:Nat->PR Tr):Nat->List Tr->Nat->PR (List Tr)
 | 0,_,_=>.out
 | k+1,aX,i=>if aX.length=8/\begins i=true then UF l 4 i else
  (part i).bind fun t a8=>if fx l a8=shut then .ok (aX++[t]) (a8+1) else
   (O6 l abw a8).bind fun _ i2=>Rx shut begins part k (aX++[t]) i2
def Vm (opn shut:Ou)(begins:Nat->Bool)(part:Nat->PR Tr)(k i:Nat):PR (List Tr):=
 (O6 l opn i).bind fun _ a8=>if fx l a8=shut then .ok [] (a8+1) else Rx l shut begins part k [] a8
def U0:Tr->Tr
 | .mk kd tx n (.mk bP kG bT (.mk de t2 cY mN::bY)::r)=>.mk kd (if bP=15/\de=18/\t2=aaP then TF else tx) n (.mk bP kG bT (.mk de t2 cY mN::bY)::r)
 | t=>t
def P8 (F:Sv)(d:Nat):Nat->List Tr->Nat->PR (List Tr)
 | 0,_,_=>.out
 | k+1,aX,i=>if fx l i=Wi then .ok aX (i+1) else
  (Pn l F.st d i).bind fun t a8=>P8 F d k (aX++[t]) a8
def PV (F:Sv)(d i:Nat):PR Tr:=
 (O6 l TG i).bind fun _ a8=>(P8 l F d F.fuel [] a8).bind fun ap i2=>.ok (.mk 6 Oh 0 ap) i2
def TQ (i:Nat):PR Tr:=(nameP l i).bind fun s a8=>.ok (.mk 23 s 0 []) a8
def Ry (F:Sv)(i:Nat):PR Tr:=(Vm l RP TV (isName l) (TQ l) F.fuel i).bind fun ap a8=>.ok (.mk 40 Oh 0 ap) a8
def acZ (F:Sv)(d i:Nat):PR Tr:=Pn l F.vl d i
def VI (F:Sv)(d i:Nat):PR Tr:=
 (nameP l i).bind fun s a8=>(O6 l aee a8).bind fun _ i2=>(Pn l F.vl d i2).bind fun t i3=>.ok (.mk 39 s 0 [t]) i3
def Tj (F:Sv)(d i:Nat):PR Tr:=
 (O6 l RP i).bind fun _ a8=>(Pn l F.vl d a8).bind fun t i2=>(O6 l TV i2).bind fun _ i3=>.ok t i3
def Uh (F:Sv)(d i:Nat):PR Tr:=
 (Vm l TG Wi (isName l) (VI l F d) F.fuel i).bind fun ap a8=>.ok (.mk 38 Oh 0 ap) a8
def QV (F:Sv)(kd:Int)(s:Ou)(d i:Nat):PR Tr:=
 (Ry l F i).bind fun ps a8=>(PV l F d a8).bind fun b i2=>.ok (.mk kd s 0 [ps,U0 b]) i2
def Ui (F:Sv)(d i:Nat):PR Tr:=
 (O6 l P7 i).bind fun _ a8=>if isName l a8=true then (nameP l a8).bind fun s i2=>QV l F 37 s d i2 else QV l F 37 Oh d a8
def XB (F:Sv)(d i:Nat):PR Tr:=
 (O6 l P7 i).bind fun _ a8=>(nameP l a8).bind fun s i2=>QV l F 5 s d i2
def Ur (F:Sv)(d i:Nat):PR Tr:=
 match QC SE (fx l i) with
 | some 0=>Tj l F d i
 | some 1=>Uh l F d i
 | some _=>Ui l F d i
 | none=>
  match ZQ 0 (fx l i) with
  | some s=>.ok (.mk s.kd Oh 0 []) (i+1)
  | none=>
   if (OX l i).kd=1 then .ok (.mk 23 (OX l i).tx 0 []) (i+1)
   else if (OX l i).kd=4 then .ok (.mk 18 (OX l i).tx 0 []) (i+1)
   else if (OX l i).kd=3 then .ok (.mk 17 Oh (OX l i).n []) (i+1)
   else UF l 3 i
def QJ (F:Sv)(d:Nat):Nat->Tr->Nat->PR Tr
 | 0,_,_=>.out
 | k+1,t,i=>
  if fx l i=arU then (nameP l (i+1)).bind fun s a8=>QJ F d k (.mk 36 s 0 [t]) a8
  else if fx l i=RP then (Vm l RP TV (isVal l) (acZ l F d) F.fuel i).bind fun ap a8=>QJ F d k (.mk 35 Oh 0 (t::ap)) a8
  else .ok t i
def TS (F:Sv)(d i:Nat):PR Tr:=(Ur l F d i).bind fun t a8=>QJ l F d F.fuel t a8
def SH (F:Sv)(d i:Nat):PR Tr:=
 match ZQ 1 (fx l i) with
 | some s=>(Pn l F.sg d (i+1)).bind fun t a8=>.ok (.mk s.kd Oh 0 [t]) a8
 | none=>TS l F d i
def RQ (F:Sv)(least:Int)(d:Nat):Nat->Tr->Nat->PR Tr
 | 0,_,_=>.out
 | k+1,t,i=>
  match ZQ 2 (fx l i) with
  | none=>.ok t i
  | some s=>if s.str<least then .ok t i else (F.pr (s.str+1) d (i+1)).bind fun u a8=>RQ F least d k (.mk s.kd Oh 0 [t,u]) a8
def Wj (F:Sv)(least:Int)(d i:Nat):PR Tr:=(F.sg d i).bind fun t a8=>RQ l F least d F.fuel t a8
def UG (F:Sv)(d i:Nat):PR Tr:=
 (F.pr 2 d i).bind fun t a8=>if fx l a8=tEq then
   (if t.kd=23\/t.kd=36 then (Pn l F.vl d (a8+1)).bind fun v i2=>.ok (.mk 24 Oh 0 [t,v]) i2 else UF l 1 i)
  else .ok t a8
def XW (F:Sv)(d i:Nat):PR Tr:=
 (nameP l (i+1)).bind fun s a8=>
  if Ql (OX l i).tx=4/\¬ fx l a8=tEq then UF l 3 a8
  else if fx l a8=tEq then (Pn l F.vl d (a8+1)).bind fun v i2=>(O6 l PY i2).bind fun _ i3=>.ok (.mk (Ql (OX l i).tx) s 0 [v]) i3
  else (O6 l PY a8).bind fun _ i2=>.ok (.mk (Ql (OX l i).tx) s 0 []) i2
def RI (F:Sv)(d i:Nat):PR Tr:=
 (Tj l F d (i+1)).bind fun v a8=>(Pn l F.st d a8).bind fun s i2=>.ok (.mk (Ql (OX l i).tx) Oh 0 [v,s]) i2
def Uj (F:Sv)(d i:Nat):PR Tr:=
 (Tj l F d (i+1)).bind fun v a8=>(Pn l F.st d a8).bind fun s i2=>
  if fx l i2=af6 then (Pn l F.st d (i2+1)).bind fun s2 i3=>.ok (.mk (Ql (OX l i).tx) Oh 0 [v,s,s2]) i3
  else .ok (.mk (Ql (OX l i).tx) Oh 0 [v,s]) i2
def UH (F:Sv)(d i:Nat):PR Tr:=
 if Ql (OX l i).tx=11\/¬ fx l (i+1)=PY then (Pn l F.vl d (i+1)).bind fun v a8=>(O6 l PY a8).bind fun _ i2=>.ok (.mk (Ql (OX l i).tx) Oh 0 [v]) i2
 else (O6 l PY (i+1)).bind fun _ i2=>.ok (.mk (Ql (OX l i).tx) Oh 0 []) i2
def Xh (F:Sv)(d i:Nat):PR (List Tr):=
 if fx l i=VA then (O6 l RP (i+1)).bind fun _ a8=>(nameP l a8).bind fun s i2=>(O6 l TV i2).bind fun _ i3=>(PV l F d i3).bind fun b i4=>.ok [.mk 13 s 0 [b]] i4
 else .ok [] i
def TW (F:Sv)(d i:Nat):PR (List Tr):=
 if fx l i=Ru then (PV l F d (i+1)).bind fun b a8=>.ok [.mk 14 Oh 0 [b]] a8
 else .ok [] i
def TY (F:Sv)(d i:Nat):PR Tr:=
 (O6 l abu i).bind fun _ i0=>(PV l F d i0).bind fun b a8=>(Xh l F d a8).bind fun c i2=>(TW l F d i2).bind fun f i3=>
  if c.length+f.length=0 then UF l 3 i3 else .ok (.mk 12 Oh 0 (b::(c++f))) i3
def XY (F:Sv)(d i:Nat):PR Tr:=(Pn l F.vl d i).bind fun v a8=>(O6 l PY a8).bind fun _ i2=>.ok (.mk 15 Oh 0 [v]) i2
def XC (F:Sv)(d:Nat):Nat->Nat->PR Tr
 | 0=>XW l F d
 | 1=>XB l F d
 | 2=>PV l F d
 | 3=>fun i=>(O6 l PY i).bind fun _ a8=>.ok (.mk 16 Oh 0 []) a8
 | 4=>Uj l F d
 | 5=>RI l F d
 | 6=>UH l F d
 | _=>TY l F d
def Qo (F:Sv)(d i:Nat):PR Tr:=
 match QC Un (fx l i) with
 | some q=>XC l F d q i
 | none=>XY l F d i
def fns:Nat->Sv
 | 0=>azW
 | k+1=>⟨k,Qo l (fns k),UG l (fns k),Wj l (fns k),SH l (fns k)⟩
def Qi (F:Sv):Nat->List Tr->Nat->PR (List Tr)
 | 0,_,_=>.out
 | k+1,aX,i=>if (OX l i).kd=6 then .ok aX i else
  (Pn l F.st 0 i).bind fun t a8=>Qi F k (aX++[t]) a8
def UJ (F:Sv):PR Tr:=(Qi l F F.fuel [] 0).bind fun ap i=>.ok (U0 (.mk 1 Oh 0 ap)) i
end
mutual
def Tr.count:Tr->Nat
 | .mk _ _ _ ks=>1+Tr.counts ks
def Tr.counts:List Tr->Nat
 | []=>0
 | t::ap=>t.count+Tr.counts ap
end
def Nx {α:Type}(q:Prop)(L a:Nat)(r:PR α):Prop:=(q->r≠.out)/\∀ x j,r=.ok x j->a<=j/\j<L
section
variable {α:Type} {q:Prop}
include α q
def Nx.ok {L a i:Nat}{x:α}(h1:a<=i)(U:i<L):Nx q L a (.ok x i):=
 ⟨fun _ h=>by (cases h),fun _ _ h=>by cases h;exact⟨h1,U⟩⟩
def Nx.bad {L a:Nat}{er:Int}{p:Nat}:Nx (α:=α) q L a (.bad er p):=
 ⟨fun _ h=>by (cases h),fun _ _ h=>by (cases h)⟩
def Nx.UF {L a:Nat}{l:List Tk}{er:Int}{i:Nat}:Nx (α:=α) q L a (UF l er i):=Nx.bad
end
def Nx.bind {α β:Type}{q:Prop}{L a b:Nat}{r:PR α}{f:α->Nat->PR β}(h:Nx q L a r)(aF:∀ x j,a<=j->j<L->Nx q L b (f x j)):Nx q L b (r.bind f):=by
 cases r with
 | ok x j=>exact aF x j (h.2 x j rfl).1 (h.2 x j rfl).2
 | bad er p=>exact Nx.bad
 | out=>exact⟨fun ag=>absurd rfl (h.1 ag),fun _ _ h=>by cases h⟩
def Nx.imp {α:Type}{q q':Prop}{L a:Nat}{r:PR α}(h:Nx q L a r)(ag:q'->q):Nx q' L a r:=⟨fun x=>h.1 (ag x),h.2⟩
def Nx.le {α:Type}{q:Prop}{L a b:Nat}{r:PR α}(h:Nx q L a r)(A:b<=a):Nx q L b r:=⟨h.1,fun x j e=>⟨Nat.le_trans A (h.2 x j e).1,(h.2 x j e).2⟩⟩
def Ends (l:List Tk):Prop:=∀ i,i<l.length->((OX l i).kd=6↔i+1=l.length)
section
variable {l:List Tk} (aL:Ends l)
include aL
def Vh {i:Nat}(az:i<l.length)(h:(OX l i).kd≠6):i+1<l.length:=by
 have:=mt (aL i az).2 h;omega
def Wl {i:Nat}{s:Ou}(az:i<l.length)(h:fx l i=s)(ab:s≠Oh):i+1<l.length:=by
 refine Vh aL az fun cf=>ab ?_;rw[<-h,fx,cf];rfl
def anW {β:Type}{ks:List (Ou × β)}{x:β}{i:Nat}(az:i<l.length)(h:QC ks (fx l i)=some x)(h0:QC ks Oh=none):i+1<l.length:=by
 refine Wl aL az rfl fun h1=>?_;rw[h1,h0] at h;cases h
def ZY {k:Int}{x:Sg}{i:Nat}(az:i<l.length)(h:ZQ k (fx l i)=some x):i+1<l.length:=by
 refine Wl aL az rfl fun h1=>?_;rw[h1] at h;have:ZQ k Oh=none:=by
  have:Zn Oh=none:=by decide
  simp[ZQ,this]
 rw[this] at h;cases h
def QD {q:Prop}{s:Ou}{i:Nat}(az:i<l.length)(ab:s≠Oh):Nx q l.length (i+1) (O6 l s i):=by
 unfold O6
 split
 ·exact Nx.ok Pg (Wl aL az ‹_› ab)
 ·exact Nx.UF
def Vo {q:Prop}{i:Nat}(az:i<l.length):Nx q l.length (i+1) (nameP l i):=by
 unfold nameP
 split
 ·rename_i h
  exact Nx.ok Pg (Vh aL az (by rw[h];decide))
 ·exact Nx.UF
omit aL in
theorem QW {q:Prop}{f:Nat->Nat->PR Tr}{d i:Nat}(h:Nx q l.length (i+1) (f (d+1) i)):Nx q l.length (i+1) (Pn l f d i):=by
 unfold Pn
 split
 ·exact Nx.UF
 ·exact h
def aga {q:Prop}{shut:Ou}{begins:Nat->Bool}{part:Nat->PR Tr}{I:Nat}(ab:shut≠Oh)(al:∀ i,I<=i->i<l.length->Nx q l.length (i+1) (part i)) :
  ∀ k aX i,I<=i->i<l.length->Nx (q/\l.length - i<k) l.length (i+1) (Rx l shut begins part k aX i):=by
 intro k
 induction k with
 | zero=>intro aX i _ _;exact⟨fun h=>absurd h.2 Oe,fun _ _ h=>by (cases h)⟩
 | succ k bv=>
  intro aX i mx az;unfold Rx
  split
  ·exact Nx.UF
  ·refine Nx.bind ((al i mx az).imp And.left) fun t j h1 U=>?_
   split
   ·exact Nx.ok Oe (Wl aL U ‹_› ab)
   ·refine Nx.bind (QD aL U Ol) fun _ cr av aN=>?_;exact((bv _ cr Oe aN).le Oe).imp fun h=>⟨h.1,by omega⟩
def Zo {q:Prop}{opn shut:Ou}{begins:Nat->Bool}{part:Nat->PR Tr}{k i:Nat}(az:i<l.length)(aO:opn≠Oh)(ab:shut≠Oh)(ag:q->l.length - i<=k)(al:∀ j,i<j->j<l.length->Nx q l.length (j+1) (part j)) :
  Nx q l.length (i+1) (Vm l opn shut begins part k i):=by
 unfold Vm;refine Nx.bind (QD aL az aO) fun _ j h1 U=>?_
 split
 ·exact Nx.ok Oe (Wl aL U ‹_› ab)
 ·exact((aga aL ab (I:=i+1) (fun j av aN=>al j av aN) k [] j h1 U).le Oe).imp fun h=>⟨h,by have:=ag h;omega⟩
structure FNx (l:List Tk)(k:Nat)(F:Sv):Prop where
 fuel:F.fuel=k - 1
 st:∀ d i,i<l.length->Nx (8 * (l.length - i)+3<k) l.length (i+1) (F.st d i)
 vl:∀ d i,i<l.length->Nx (8 * (l.length - i)+2<k) l.length (i+1) (F.vl d i)
 pr:∀ b d i,i<l.length->Nx (8 * (l.length - i)+1<k) l.length (i+1) (F.pr b d i)
 sg:∀ d i,i<l.length->Nx (8 * (l.length - i)<k) l.length (i+1) (F.sg d i)
variable {k:Nat} {F:Sv} (ah:FNx l k F)
include ah
def ael {q:Prop}{I:Nat}(ag:q->8 * (l.length - I)<=k+4):∀ n d aX i,I<i->i<l.length->Nx (q/\l.length - i<n) l.length (i+1) (P8 l F d n aX i):=by
 intro n
 induction n with
 | zero=>intro d aX i _ _;exact⟨fun h=>absurd h.2 Oe,fun _ _ h=>by (cases h)⟩
 | succ n bv=>
  intro d aX i mx az;unfold P8
  split
  ·exact Nx.ok Oe (Wl aL az ‹_› Ol)
  ·refine Nx.bind (QW ((ah.st (d+1) i az).imp fun h=>?_)) fun t j h1 U=>((bv d _ j Oe U).le Oe).imp fun h=>⟨h.1,by omega⟩;have:=ag h.1;omega
def WO {q:Prop}{d i:Nat}(az:i<l.length)(ag:q->8 * (l.length - i)<=k+4):Nx q l.length (i+1) (PV l F d i):=by
 unfold PV;refine Nx.bind (QD aL az Ol) fun _ j h1 U=>?_;refine Nx.bind (((ael aL ah ag F.fuel d [] j Oe U).le (b:=j) Oe).imp fun h=>⟨h,?_⟩) fun ap cr av aN=>Nx.ok Oe aN;have:=ag h;rw[ah.fuel];omega
omit ah in
theorem adz {q:Prop}{i:Nat}(az:i<l.length):Nx q l.length (i+1) (TQ l i):=by
 unfold TQ;exact Nx.bind (Vo aL az) fun s j h1 U=>Nx.ok h1 U
def aif {q:Prop}{i:Nat}(az:i<l.length)(ag:q->8 * (l.length - i)<=k+4):Nx q l.length (i+1) (Ry l F i):=by
 unfold Ry;refine Nx.bind (Zo aL az Ol Ol (fun h=>?_) fun j _ h=>adz aL h) fun ap j h1 U=>Nx.ok h1 U;have:=ag h;rw[ah.fuel];omega
omit aL in
theorem aem {q:Prop}{d i:Nat}(az:i<l.length)(ag:q->8 * (l.length - i)+2<k):Nx q l.length (i+1) (acZ l F d i):=QW ((ah.vl _ _ az).imp ag)
section
variable {q:Prop} {d i:Nat} (az:i<l.length) (ag:q->8 * (l.length - i)<=k+4)
include q d i az ag
def agb:Nx q l.length (i+1) (VI l F d i):=by
 unfold VI;refine Nx.bind (Vo aL az) fun s j h1 U=>?_;refine Nx.bind (QD aL U Ol) fun _ cr av aN=>?_;exact Nx.bind (QW ((ah.vl _ _ aN).imp fun h=>by have:=ag h;omega)) fun t h9 bx cf=>Nx.ok Oe cf
def Z4:Nx q l.length (i+1) (Tj l F d i):=by
 unfold Tj;refine Nx.bind (QD aL az Ol) fun _ cr av aN=>?_;refine Nx.bind (QW ((ah.vl _ _ aN).imp fun h=>by have:=ag h;omega)) fun t h9 bx cf=>?_
 exact Nx.bind (QD aL cf Ol) fun _ EL g2 hb=>Nx.ok Oe hb
def aii:Nx q l.length (i+1) (Uh l F d i):=by
 unfold Uh;refine Nx.bind (Zo aL az Ol Ol (fun h=>?_) fun j h1 h=>agb aL ah h fun hh=>by have:=ag hh;omega) fun ap j h1 U=>Nx.ok h1 U
 have:=ag h;rw[ah.fuel];omega
end
def X0 {q:Prop}{kd:Int}{s:Ou}{d i:Nat}(az:i<l.length)(ag:q->8 * (l.length - i)<=k+4):Nx q l.length (i+1) (QV l F kd s d i):=by
 unfold QV;refine Nx.bind (aif aL ah az ag) fun ps j h1 U=>?_;exact Nx.bind (WO aL ah U fun h=>by have:=ag h;omega) fun b cr av aN=>Nx.ok Oe aN
section
variable {q:Prop} {d i:Nat} (az:i<l.length) (ag:q->8 * (l.length - i)<=k+4)
include q d i az ag
def aij:Nx q l.length (i+1) (Ui l F d i):=by
 unfold Ui;refine Nx.bind (QD aL az Ol) fun _ j h1 U=>?_
 split
 ·refine Nx.bind (Vo aL U) fun s cr av aN=>?_;exact(X0 aL ah aN fun h=>by have:=ag h;omega).le Oe
 ·exact(X0 aL ah U fun h=>by have:=ag h;omega).le Oe
def anX:Nx q l.length (i+1) (XB l F d i):=by
 unfold XB;refine Nx.bind (QD aL az Ol) fun _ j h1 U=>?_;refine Nx.bind (Vo aL U) fun s cr av aN=>?_;exact(X0 aL ah aN fun h=>by have:=ag h;omega).le Oe
def alI:Nx q l.length (i+1) (Ur l F d i):=by
 unfold Ur
 split
 ·exact Z4 aL ah az ag
 ·exact aii aL ah az ag
 ·exact aij aL ah az ag
 ·split
  ·rename_i s ab
   exact Nx.ok Pg (ZY aL az ab)
  ·split
   ·rename_i h;exact Nx.ok Pg (Vh aL az (by rw[h];decide))
   ·split
    ·rename_i h;exact Nx.ok Pg (Vh aL az (by rw[h];decide))
    ·split
     ·rename_i h;exact Nx.ok Pg (Vh aL az (by rw[h];decide))
     ·exact Nx.UF
end
def aen {q:Prop}{I:Nat}(ag:q->8 * (l.length - I)<=k+4):∀ n d t i,I<i->i<l.length->Nx (q/\l.length - i<n) l.length i (QJ l F d n t i):=by
 intro n
 induction n with
 | zero=>intro d aX i _ _;exact⟨fun h=>absurd h.2 Oe,fun _ _ h=>by (cases h)⟩
 | succ n bv=>
  intro d t i mx az;unfold QJ
  split
  ·have h0:=Wl aL az ‹_› Ol;exact Nx.bind (Vo aL h0) fun s j h1 U=>((bv d _ j Oe U).le Oe).imp fun h=>⟨h.1,by omega⟩
  ·split
   ·refine Nx.bind (Zo aL az Ol Ol (fun h=>?_) fun j h1 h=>aem ah h fun hh=>by have:=ag hh.1;omega) fun ap j h1 U=>((bv d _ j Oe U).le Oe).imp fun h=>⟨h.1,by omega⟩
    have:=ag h.1;rw[ah.fuel];omega
   ·exact Nx.ok Pg az
def alJ {q:Prop}{d i:Nat}(az:i<l.length)(ag:q->8 * (l.length - i)<=k+4):Nx q l.length (i+1) (TS l F d i):=by
 unfold TS;refine Nx.bind (alI aL ah az ag) fun t j h1 U=>((aen aL ah ag F.fuel d t j Oe U).le Oe).imp fun h=>⟨h,?_⟩;have:=ag h;rw[ah.fuel];omega
def aik {d i:Nat}(az:i<l.length):Nx (8 * (l.length - i)<k+1) l.length (i+1) (SH l F d i):=by
 unfold SH
 split
 ·rename_i s ab
  have h0:=ZY aL az ab;exact Nx.bind (QW ((ah.sg _ _ h0).imp fun h=>by omega)) fun t j h1 U=>Nx.ok Oe U
 ·exact alJ aL ah az fun h=>by omega
def agc {q:Prop}{I:Nat}(ag:q->8 * (l.length - I)<=k+4):∀ n b d t i,I<i->i<l.length->Nx (q/\l.length - i<n) l.length i (RQ l F b d n t i):=by
 intro n
 induction n with
 | zero=>intro b d aX i _ _;exact⟨fun h=>absurd h.2 Oe,fun _ _ h=>by (cases h)⟩
 | succ n bv=>
  intro b d t i mx az;unfold RQ
  split
  ·exact Nx.ok Pg az
  ·rename_i s ab
   have h0:=ZY aL az ab
   split
   ·exact Nx.ok Pg az
   ·refine Nx.bind ((ah.pr _ _ _ h0).imp fun h=>?_) fun u j h1 U=>((bv b d _ j Oe U).le Oe).imp fun h=>⟨h.1,by omega⟩;have:=ag h.1;omega
def anY {b:Int}{d i:Nat}(az:i<l.length):Nx (8 * (l.length - i)+1<k+1) l.length (i+1) (Wj l F b d i):=by
 unfold Wj;refine Nx.bind ((ah.sg _ _ az).imp fun h=>by omega) fun t j h1 U=>((agc aL ah (I:=i) (q:=8 * (l.length - i)+1<k+1) (fun h=>by omega) F.fuel b d t j Oe U).le Oe).imp fun h=>⟨h,?_⟩;rw[ah.fuel];omega
def alK {d i:Nat}(az:i<l.length):Nx (8 * (l.length - i)+2<k+1) l.length (i+1) (UG l F d i):=by
 unfold UG;refine Nx.bind ((ah.pr _ _ _ az).imp fun h=>by omega) fun t j h1 U=>?_
 split
 ·have h0:=Wl aL U ‹_› Ol
  split
  ·exact Nx.bind (QW ((ah.vl _ _ h0).imp fun h=>by omega)) fun v cr av aN=>Nx.ok Oe aN
  ·exact Nx.UF
 ·exact Nx.ok h1 U
def anZ {q:Prop}{d i:Nat}(az:i<l.length)(ag:q->8 * (l.length - i)+2<k):Nx q l.length (i+1) (XY l F d i):=by
 unfold XY;refine Nx.bind (QW ((ah.vl _ _ az).imp ag)) fun v j h1 U=>?_;exact Nx.bind (QD aL U Ol) fun _ cr av aN=>Nx.ok Oe aN
section
variable {q:Prop} {d i:Nat} (az:i+1<l.length) (ag:q->8 * (l.length - i)<=k+4)
include q d i az ag
def an0:Nx q l.length (i+1) (XW l F d i):=by
 unfold XW;refine Nx.bind (Vo aL az) fun s j h1 U=>?_
 split
 ·exact Nx.UF
 ·split
  ·have h0:=Wl aL U ‹_› Ol;refine Nx.bind (QW ((ah.vl _ _ h0).imp fun h=>by have:=ag h;omega)) fun v cr av aN=>?_
   exact Nx.bind (QD aL aN Ol) fun _ h9 bx cf=>Nx.ok Oe cf
  ·exact Nx.bind (QD aL U Ol) fun _ h9 bx cf=>Nx.ok Oe cf
def ail:Nx q l.length (i+1) (RI l F d i):=by
 unfold RI;refine Nx.bind (Z4 aL ah az fun h=>by have:=ag h;omega) fun v j h1 U=>?_
 exact Nx.bind (QW ((ah.st _ _ U).imp fun h=>by have:=ag h;omega)) fun v cr av aN=>Nx.ok Oe aN
def ain:Nx q l.length (i+1) (Uj l F d i):=by
 unfold Uj;refine Nx.bind (Z4 aL ah az fun h=>by have:=ag h;omega) fun v j h1 U=>?_
 refine Nx.bind (QW ((ah.st _ _ U).imp fun h=>by have:=ag h;omega)) fun v cr av aN=>?_
 split
 ·have h0:=Wl aL aN ‹_› Ol;exact Nx.bind (QW ((ah.st _ _ h0).imp fun h=>by have:=ag h;omega)) fun v h9 bx cf=>Nx.ok Oe cf
 ·exact Nx.ok Oe aN
def aio:Nx q l.length (i+1) (UH l F d i):=by
 unfold UH
 split
 ·refine Nx.bind (QW ((ah.vl _ _ az).imp fun h=>by have:=ag h;omega)) fun v j h1 U=>?_
  exact Nx.bind (QD aL U Ol) fun _ cr av aN=>Nx.ok Oe aN
 ·exact Nx.bind (QD aL az Ol) fun _ cr av aN=>Nx.ok Oe aN
end
section
variable {q:Prop} {d i:Nat} (az:i<l.length) (ag:q->8 * (l.length - i)<=k+4)
include q d i az ag
def alL:Nx q l.length i (Xh l F d i):=by
 unfold Xh
 split
 ·have h0:=Wl aL az ‹_› Ol;refine Nx.bind (QD aL h0 Ol) fun _ bR h1 U=>?_;refine Nx.bind (Vo aL U) fun _ cr av aN=>?_;refine Nx.bind (QD aL aN Ol) fun _ h9 bx cf=>?_;exact Nx.bind (WO aL ah cf fun h=>by have:=ag h;omega) fun b EL g2 hb=>Nx.ok Oe hb
 ·exact Nx.ok Pg az
def agd:Nx q l.length i (TW l F d i):=by
 unfold TW
 split
 ·have h0:=Wl aL az ‹_› Ol;exact Nx.bind (WO aL ah h0 fun h=>by have:=ag h;omega) fun b EL g2 hb=>Nx.ok Oe hb
 ·exact Nx.ok Pg az
def agf:Nx q l.length (i+1) (TY l F d i):=by
 unfold TY;refine Nx.bind (QD aL az Ol) fun _ M5 h h0=>?_;refine Nx.bind (WO aL ah h0 fun h=>by have:=ag h;omega) fun b bR h1 U=>?_
 refine Nx.bind (alL aL ah U fun h=>by have:=ag h;omega) fun c cr av aN=>?_
 refine Nx.bind (agd aL ah aN fun h=>by have:=ag h;omega) fun f h9 bx cf=>?_
 split
 ·exact Nx.UF
 ·exact Nx.ok Oe cf
end
def an1 {q:Prop}{d i c:Nat}(az:i+1<l.length)(ag:q->8 * (l.length - i)<=k+4):Nx q l.length (i+1) (XC l F d c i):=by
 unfold XC
 split
 ·exact an0 aL ah az ag
 ·exact anX aL ah Oe ag
 ·exact WO aL ah Oe ag
 ·exact Nx.bind (QD aL Oe Ol) fun _ j h1 U=>Nx.ok h1 U
 ·exact ain aL ah az ag
 ·exact ail aL ah az ag
 ·exact aio aL ah az ag
 ·exact agf aL ah Oe ag
def ac0 {d i:Nat}(az:i<l.length):Nx (8 * (l.length - i)+3<k+1) l.length (i+1) (Qo l F d i):=by
 unfold Qo
 split
 ·rename_i c ai
  exact an1 aL ah (anW aL az ai Ol) fun h=>by omega
 ·exact anZ aL ah az fun h=>by omega
omit ah in
theorem aip:∀ k,FNx l k (fns l k):=by
 intro k
 induction k with
 | zero=>exact⟨rfl,fun _ _ _=>⟨fun h=>absurd h Oe,fun _ _ h=>by (cases h)⟩,fun _ _ _=>⟨fun h=>absurd h Oe,fun _ _ h=>by (cases h)⟩,fun _ _ _ _=>⟨fun h=>absurd h Oe,fun _ _ h=>by (cases h)⟩,fun _ _ _=>⟨fun h=>absurd h Oe,fun _ _ h=>by (cases h)⟩⟩
 | succ k bv=>exact⟨rfl,fun _ _ az=>ac0 aL bv az,fun _ _ az=>alK aL bv az,fun _ _ _ az=>anY aL bv az,fun _ _ az=>aik aL bv az⟩
end
structure Ap (R B:Nat)(w w':Og):Prop where
 os:w'.os=w.os
 tape:w'.tape=w.tape
 output:w'.output=w.output
 size:w.heap.size<=w'.heap.size
 block:∀ k,k<B->k≠R->w'.heap[k]? = w.heap[k]?
def Ap.refl (R B:Nat)(w:Og):Ap R B w w:=⟨rfl,rfl,rfl,Pg,fun _ _ _=>rfl⟩
def Ap.of {R B:Nat}{w w':Og}(h:Below B w w'):Ap R B w w':=⟨h.os,h.tape,h.output,h.size,fun k E _=>h.block k E⟩
def Ap.trans {R B:Nat}{a b c:Og}(h:Ap R B a b)(k:Ap R B b c):Ap R B a c:=
 ⟨k.os.trans h.os,k.tape.trans h.tape,k.output.trans h.output,Nat.le_trans h.size k.size,fun n ax aa=>(k.block n ax aa).trans (h.block n ax aa)⟩
def Ap.mono {R B B':Nat}{w w':Og}(h:Ap R B w w')(a1:B'<=B):Ap R B' w w':=⟨h.os,h.tape,h.output,h.size,fun k E=>h.block k (Nat.lt_of_lt_of_le E a1)⟩
def Ap.next {R:Nat}{a b c:Og}(h:Ap R a.heap.size a b)(k:Ap R b.heap.size b c):Ap R a.heap.size a c:=h.trans (k.mono h.size)
section
variable {R B:Nat} {a w:Og} (h:Ap R B a w)
include R B a w h
def Ap.drew:Ap R B a w.drew:=⟨h.os,h.tape,h.output,h.size,h.block⟩
def Ap.alloc (a1:B<=w.heap.size)(o:Obj):Ap R B a (w.alloc o):=
 h.trans (Ap.of ((Below.refl B w).alloc a1 o))
def Ap.setCell {p:Addr}(al:B<=p.block\/p.block=R)(u:Ot):Ap R B a (w.setCell p u):=
 ⟨h.os,h.tape,h.output,by simpa using h.size,fun k E aa=>by rw[Below.heap_setCell w p u k Oe];exact h.block k E aa⟩
end
def Ap.grown {R B:Nat}{a w w':Og}{row:Option Nat}(h:Ap R B a w)(hg:w.grownBy w' row)(a1:B<=w.heap.size)(aa:∀ k,row=some k->B<=k):Ap R B a w':=
 h.trans (Ap.of ((Below.refl B w).grown hg a1 aa))
section
variable {R B:Nat} {w w':Og} (h:Ap R B w w')
include R B w w' h
def Ap.cell {p:Addr}(al:p.block<B)(aa:p.block≠R):w'.cell? p=w.cell? p:=World.cell?_of_block (w:=w) (h.block p.block al aa)
def Ap.below (a1:B<=R):Below B w w':=⟨h.os,h.tape,h.output,h.size,fun k E=>h.block k E Oe⟩
end
def lt_of_heap {w:Og}{b:Nat}{o:Obj}(h:w.heap[b]? = some o):b<w.heap.size:=(Array.getElem?_eq_some_iff.1 h).1
abbrev O7 (kd:Int)(tx:Ou)(n:Int)(v:Ot):Obj:=OM #[NY kd,Oj tx,NY n,v] 40
abbrev N7 (p:Nat):Ot:=Oy p 0
def ank (I:Nat->Prop)(w:Og)(v:Ot)(ps:List Nat):Prop:=w.ownsRow 0 22 1 v ps.length (ps.map N7)/\∀ g,v.ownBlock=some g->I g
mutual
def PO (I:Nat->Prop)(w:Og):Tr->Nat->Prop
 | .mk kd tx n ks,p=>I p/\∃ v ps,w.heap[p]? = some (O7 kd tx n v)/\ank I w v ps/\Oz (fun b=>I b/\b≠p) w ks ps
def Oz (I:Nat->Prop)(w:Og):List Tr->List Nat->Prop
 | [],ps=>ps=[]
 | t::ap,ps=>∃ p eH M,ps=p::eH/\PO (fun b=>I b/\b<M) w t p/\Oz (fun b=>I b/\M<=b) w ap eH
end
def U3 (I:Nat->Prop)(w w':Og):Prop:=∀ b,I b->b<w.heap.size->w'.heap[b]? = w.heap[b]?
def Q8 {I:Nat->Prop}{w w':Og}{B e sz:Nat}{v:Ot}{n:Nat}{xs:List Ot}(ay:U3 I w w')(mx:∀ g,v.ownBlock=some g->I g)(h:w.ownsRow B e sz v n xs):w'.ownsRow B e sz v n xs:=by
 refine⟨h.1,?_⟩
 rcases h.2 with ax|⟨g,cap,ck,am,A,hg,rest⟩
 ·exact Or.inl ax
 ·exact Or.inr ⟨g,cap,ck,am,A,by rw[ay g (mx g (by rw[am];rfl)) (lt_of_heap hg)];exact hg,rest⟩
mutual
def PO.later {I:Nat->Prop}{w w':Og}(ay:U3 I w w'):∀ (t:Tr) (p:Nat),PO I w t p->PO I w' t p
 | .mk kd tx n ks,p,h=>by
  rw[PO] at h ⊢;obtain⟨al,v,ps,A,aa,E⟩:=h;exact⟨al,v,ps,by rw[ay p al (lt_of_heap A)];exact A,⟨Q8 ay aa.2 aa.1,aa.2⟩,Oz.later (fun b A hl=>ay b A.1 hl) ks ps E⟩
def Oz.later {I:Nat->Prop}{w w':Og}(ay:U3 I w w'):∀ (ap:List Tr) (ps:List Nat),Oz I w ap ps->Oz I w' ap ps
 | [],ps,h=>by rw[Oz] at h ⊢;exact h
 | t::ap,ps,h=>by
  rw[Oz] at h ⊢;obtain⟨p,eH,M,rfl,h1,U⟩:=h;exact⟨p,eH,M,rfl,PO.later (fun b A hl=>ay b A.1 hl) t p h1,Oz.later (fun b A hl=>ay b A.1 hl) ap eH U⟩
end
def P6 {w:Og}{B e sz:Nat}{v:Ot}{n:Nat}{xs:List Ot}(h:w.ownsRow B e sz v n xs)(g:Nat)(hg:v.ownBlock=some g):g<w.heap.size/\B<=g:=by
 rcases h.2 with ax|⟨g1,cap,ck,am,A,hh,rest⟩
 ·rw[ax.1] at hg;cases hg
 ·rw[am] at hg;cases hg;exact⟨lt_of_heap hh,A⟩
mutual
def PO.mono {I J:Nat->Prop}{w:Og}(my:∀ b,I b->b<w.heap.size->J b):∀ (t:Tr) (p:Nat),PO I w t p->PO J w t p
 | .mk kd tx n ks,p,h=>by
  rw[PO] at h ⊢;obtain⟨al,v,ps,A,aa,E⟩:=h;exact⟨my p al (lt_of_heap A),v,ps,A,⟨aa.1,fun g hg=>my g (aa.2 g hg) (P6 aa.1 g hg).1⟩,Oz.mono (fun b A hl=>⟨my b A.1 hl,A.2⟩) ks ps E⟩
def Oz.mono {I J:Nat->Prop}{w:Og}(my:∀ b,I b->b<w.heap.size->J b):∀ (ap:List Tr) (ps:List Nat),Oz I w ap ps->Oz J w ap ps
 | [],ps,h=>by rw[Oz] at h ⊢;exact h
 | t::ap,ps,h=>by
  rw[Oz] at h ⊢;obtain⟨p,eH,M,rfl,h1,U⟩:=h;exact⟨p,eH,M,rfl,PO.mono (fun b A hl=>⟨my b A.1 hl,A.2⟩) t p h1,Oz.mono (fun b A hl=>⟨my b A.1 hl,A.2⟩) ap eH U⟩
end
def Oz.parts {I:Nat->Prop}{w:Og}{t:Tr}{ap:List Tr}{ps:List Nat}(h:Oz I w (t::ap) ps):∃ p eH,ps=p::eH/\PO I w t p/\Oz I w ap eH:=by
 rw[Oz] at h;obtain⟨p,eH,M,e,h1,U⟩:=h;exact⟨p,eH,e,PO.mono (fun b A _=>A.1) _ _ h1,Oz.mono (fun b A _=>A.1) _ _ U⟩
def Oz.length {I:Nat->Prop}{w:Og}:∀ (ap:List Tr) (ps:List Nat),Oz I w ap ps->ps.length=ap.length
 | [],ps,h=>by rw[Oz] at h;rw[h];rfl
 | t::ap,ps,h=>by
  obtain⟨p,eH,rfl,h1,U⟩:=h.parts;simp[Oz.length ap eH U]
section
variable {I:Nat->Prop} {w:Og}
include I w
def Oz.nil:Oz I w [] []:=by rw[Oz]
def Oz.pair {M:Nat}{t u:Tr}{p q:Nat}(h:PO (fun b=>I b/\b<M) w t p)(U:PO (fun b=>I b/\M<=b) w u q):Oz I w [t,u] [p,q]:=by
 rw[Oz];refine⟨p,[q],M,rfl,h,?_⟩;rw[Oz];exact⟨q,[],w.heap.size,rfl,PO.mono (fun _ A hl=>⟨A,hl⟩) _ _ U,Oz.nil⟩
def Oz.cons {t:Tr}{p:Nat}(h:PO I w t p)(_:Oz I w [] []):Oz I w [t] [p]:=by
 rw[Oz];exact⟨p,[],w.heap.size,rfl,PO.mono (fun _ A hl=>⟨A,hl⟩) _ _ h,Oz.nil⟩
end
def Oz.append {M:Nat}{w:Og}{fq:List Tr}{dI:List Nat}:∀ (ap:List Tr) (ps:List Nat) {I:Nat->Prop},Oz (fun b=>I b/\M<=b) w fq dI->Oz (fun b=>I b/\b<M) w ap ps->Oz I w (ap++fq) (ps++dI)
 | [],ps,I,aQ,h=>by rw[Oz] at h;subst h;exact Oz.mono (fun b A _=>A.1) _ _ aQ
 | t'::ap,ps,I,aQ,h=>by
  rw[Oz] at h;obtain⟨cu,eH,N,rfl,h1,U⟩:=h
  show Oz I w (t'::(ap++fq)) (cu::(eH++dI))
  rw[Oz];refine⟨cu,eH++dI,min N M,rfl,PO.mono (fun b A _=>⟨A.1.1,by have h1:=A.1.2;have U:=A.2;omega⟩) _ _ h1,Oz.append ap eH (Oz.mono (fun b A _=>⟨⟨A.1,by have h1:=A.2;omega⟩,A.2⟩) _ _ aQ) (Oz.mono (fun b A _=>⟨⟨A.1.1,by have h1:=A.2;omega⟩,A.1.2⟩) _ _ U)⟩
def VT (I:Nat->Prop)(w:Og):List Tr->List Nat->Prop
 | [],ps=>ps=[]
 | t::ap,ps=>∃ p eH,ps=p::eH/\PO I w t p/\VT I w ap eH
def Oz.nl {I:Nat->Prop}{w:Og}:∀ (ap:List Tr) (ps:List Nat),Oz I w ap ps->VT I w ap ps
 | [],ps,h=>by rw[Oz] at h;exact h
 | t::ap,ps,h=>by
  obtain⟨p,eH,rfl,h1,U⟩:=h.parts;exact⟨p,eH,rfl,h1,Oz.nl ap eH U⟩
def VT.later {I:Nat->Prop}{w w':Og}(ay:U3 I w w'):∀ (ap:List Tr) (ps:List Nat),VT I w ap ps->VT I w' ap ps
 | [],_,h=>h
 | _::ap,_,⟨p,eH,e,h1,U⟩=>⟨p,eH,e,PO.later ay _ p h1,VT.later ay ap eH U⟩
def VT.length {I:Nat->Prop}{w:Og}:∀ (ap:List Tr) (ps:List Nat),VT I w ap ps->ps.length=ap.length
 | [],_,h=>by rw[show _=_ from h];rfl
 | t::ap,ps,h=>by
  obtain⟨p,eH,rfl,h1,U⟩:=h;simp[VT.length ap eH U]
def VT.nil {I:Nat->Prop}{w:Og}:VT I w [] []:=rfl
def VT.cons {I:Nat->Prop}{w:Og}{t:Tr}{p:Nat}{ap:List Tr}{ps:List Nat}(h:PO I w t p)(U:VT I w ap ps):VT I w (t::ap) (p::ps):=⟨p,ps,rfl,h,U⟩
def VT.append {I:Nat->Prop}{w:Og}{fq:List Tr}{dI:List Nat}(aQ:VT I w fq dI):∀ (ap:List Tr) (ps:List Nat),VT I w ap ps->VT I w (ap++fq) (ps++dI)
 | [],ps,h=>by rw[show ps=[] from h];exact aQ
 | t'::ap,ps,h=>by
  obtain⟨cu,eH,rfl,h1,U⟩:=h;exact VT.cons h1 (VT.append aQ ap eH U)
def NV (B:Nat)(w:Og)(t:Tr)(v:Ot):Prop:=∃ p,v=N7 p/\PO (fun b=>B<=b) w t p
def EV (B:Nat)(w:Og)(t:Tr)(v:Ot):Prop:=
 ∃ p u ps,v=N7 p/\B<=p/\w.heap[p]? = some (O7 t.kd t.tx t.n u)/\w.ownsRow B 22 1 u ps.length (ps.map N7)/\u.ownBlock≠some p/\Oz (fun b=>B<=b/\b≠p/\u.ownBlock≠some b) w t.kids ps
def KV (B:Nat)(w:Og)(ap:List Tr)(v:Ot):Prop:=
 ∃ ps,w.ownsRow B 22 1 v ps.length (ps.map N7)/\Oz (fun b=>B<=b/\v.ownBlock≠some b) w ap ps
def alu {w:Og}{B e sz:Nat}{v:Ot}{n:Nat}{xs:List Ot}(h:w.ownsRow B e sz v n xs):w.ownsRow 0 e sz v n xs:=by
 refine⟨h.1,?_⟩
 rcases h.2 with ax|⟨g,cap,ck,am,A,rest⟩
 ·exact Or.inl ax
 ·exact Or.inr ⟨g,cap,ck,am,Nat.zero_le _,rest⟩
def EV.nv {B:Nat}{w:Og}{t:Tr}{v:Ot}(h:EV B w t v):NV B w t v:=by
 obtain⟨p,u,ps,rfl,al,A,aa,_,E⟩:=h
 cases t with
 | mk kd tx n ks=>
  refine⟨p,rfl,?_⟩;rw[PO];exact⟨al,u,ps,A,⟨alu aa,fun g hg=>(P6 aa g hg).2⟩,Oz.mono (fun b A _=>⟨A.1,A.2.1⟩) _ _ E⟩
def U3.XA {R B:Nat}{I:Nat->Prop}{w w':Og}(h:Ap R w.heap.size w w')(a1:R<B)(mx:∀ b,I b->B<=b):U3 I w w':=fun b A hl=>h.block b hl (by have:=mx b A;omega)
def NV.later {R B:Nat}{w w':Og}{t:Tr}{v:Ot}(h:NV B w t v)(ay:Ap R w.heap.size w w')(a1:R<B):NV B w' t v:=by
 obtain⟨p,rfl,al⟩:=h;exact⟨p,rfl,PO.later (U3.XA ay a1 fun _ h=>h) _ _ al⟩
def NV.mono {B B':Nat}{w:Og}{t:Tr}{v:Ot}(h:NV B w t v)(a1:B'<=B):NV B' w t v:=by
 obtain⟨p,rfl,al⟩:=h;exact⟨p,rfl,PO.mono (fun b h _=>Nat.le_trans a1 h) _ _ al⟩
def EV.later {R B:Nat}{w w':Og}{t:Tr}{v:Ot}(h:EV B w t v)(ay:Ap R w.heap.size w w')(a1:R<B):EV B w' t v:=by
 obtain⟨p,u,ps,rfl,al,A,aa,aQ,E⟩:=h;exact⟨p,u,ps,rfl,al,by rw[ay.block p (lt_of_heap A) Oe];exact A,Q8 (I:=fun b=>B<=b) (U3.XA ay a1 fun _ h=>h) (fun g hg=>(P6 aa g hg).2) aa,aQ,Oz.later (U3.XA ay a1 fun _ h=>h.1) _ _ E⟩
def EV.mono {B B':Nat}{w:Og}{t:Tr}{v:Ot}(h:EV B w t v)(a1:B'<=B):EV B' w t v:=by
 obtain⟨p,u,ps,rfl,al,A,aa,aQ,E⟩:=h;refine⟨p,u,ps,rfl,by omega,A,?_,aQ,Oz.mono (fun b h _=>⟨by omega,h.2⟩) _ _ E⟩;refine⟨aa.1,?_⟩;exact azk
def KV.later {R B:Nat}{w w':Og}{ap:List Tr}{v:Ot}(h:KV B w ap v)(ay:Ap R w.heap.size w w')(a1:R<B):KV B w' ap v:=by
 obtain⟨ps,aa,E⟩:=h;exact⟨ps,Q8 (I:=fun b=>B<=b) (U3.XA ay a1 fun _ h=>h) (fun g hg=>(P6 aa g hg).2) aa,Oz.later (U3.XA ay a1 fun _ h=>h.1) _ _ E⟩
def KV.nil (B:Nat)(w:Og):KV B w [] Qv:=⟨[],⟨rfl,Or.inl ⟨rfl,rfl⟩⟩,Oz.nil⟩
def Oi (w:Og)(o:Obj):(w.alloc o).heap[w.heap.size]? = some o:=by simpa using heap_alloc_new w o
def EV.new {B:Nat}{w:Og}{ap:List Tr}{v:Ot}(h:KV B w ap v)(a1:B<=w.heap.size)(kd:Int)(tx:Ou)(n:Int) :
  EV B (w.alloc (O7 kd tx n v)) (.mk kd tx n ap) (N7 w.heap.size):=by
 obtain⟨ps,aa,E⟩:=h;have ab:∀ I,U3 I w (w.alloc (O7 kd tx n v)):=fun I b _ hl=>Below.heap_alloc w _ b hl;refine⟨w.heap.size,v,ps,rfl,a1,Oi _ _,Q8 (I:=fun _=>True) (ab _) (fun _ _=>trivial) aa,fun h=>?_,Oz.later (ab _) _ _ (Oz.mono (fun b h hl=>⟨h.1,by omega,h.2⟩) _ _ E)⟩;exact absurd (P6 aa _ h).1 Oe
def KV.row {B:Nat}{w:Og}{ap:List Tr}{ps:List Nat}(h:Oz (fun b=>B<=b) w ap ps)(a1:B<=w.heap.size)(hl:ps.length<=maxLen)(cs:Array Ot)(ai:cs.toList=ps.map N7) :
  KV B (w.alloc (.cells cs 22)) ap (.slice (some (N9 w.heap.size 0)) ps.length ps.length):=by
 have ab:∀ I,U3 I w (w.alloc (.cells cs 22)):=fun I b _ hl=>Below.heap_alloc w _ b hl;have aH:cs.size=ps.length:=by rw[<-Array.length_toList,ai,List.length_map]
 refine⟨ps,⟨by simp,Or.inr ⟨w.heap.size,ps.length,cs,rfl,a1,Oi _ _,Pg,hl,by omega,?_⟩⟩,Oz.later (ab _) _ _ (Oz.mono (fun b h hl=>⟨h,fun e=>by simp only[Value.ownBlock,Option.some.injEq] at e;omega⟩) _ _ h)⟩
 rw[ai];exact List.take_of_length_le OW
structure Ctx where
 R:Nat
 l:List Tk
 tb:Nat
 cap:Nat
 mS:Nat
 mT:Nat
 mV:Nat
 lo:Nat
def sgV (s:Sg):Ot:=.agg #[Oj s.tx,NY s.kd,NY s.parts,NY s.str]
def mkE (e:(Ou × Ot) × Nat):MapEntry:={ key:=Oj e.1.1,val:=e.1.2,born:=e.2 }
def mapOf (l:List (Ou × Ot)):Array MapEntry:=((l.zipIdx).map mkE).toArray
def aj7:Array MapEntry:=mapOf (sgs.map fun e=>(e.tx,sgV e))
def U5 (R:Nat)(f:Nat):Ot:=.func (.func f) #[Oy R 0] #[]
def avn:Nat->Nat
 | 0=>147
 | 1=>148
 | 2=>149
 | 3=>150
 | 4=>151
 | 5=>152
 | 6=>153
 | _=>154
def afX:Nat->Nat
 | 0=>155
 | 1=>156
 | _=>157
def afY (R:Nat):Array MapEntry:=mapOf (Un.map fun e=>(e.1,U5 R (avn e.2)))
def aj8 (R:Nat):Array MapEntry:=mapOf (SE.map fun e=>(e.1,U5 R (afX e.2)))
def VK:Array Ot:=(hds.flatMap fun e=>[Oj e.1,NY e.2]).toArray
def Ctx.tv (c:Ctx):Ot:=.slice (some (N9 c.tb 0)) c.l.length c.cap
structure Base (c:Ctx)(w:Og):Prop where
 ends:Ends c.l
 tokens:∃ ck,w.heap[c.tb]? = some (OM ck 144)/\c.l.length<=c.cap/\c.cap<=maxLen/\ck.size=c.cap * 4/\ck.toList.take (c.l.length * 4)=QT c.l
 ntb:c.tb≠c.R
 signs:w.heap[c.mS]? = some (.map aj7 14)
 nS:c.mS≠c.R
 azl:w.heap[c.mT]? = some (.map (afY c.R) 12)
 nT:c.mT≠c.R
 vals:w.heap[c.mV]? = some (.map (aj8 c.R) 3)
 nV:c.mV≠c.R
 len:c.l.length<=3001
 heads:∃ t fr,w.heap[4]? = some (.cells VK t fr)
 nH:4≠c.R
 old:c.tb<c.lo/\c.mS<c.lo/\c.mT<c.lo/\c.mV<c.lo/\4<c.lo/\c.R<c.lo
 size:c.lo<=w.heap.size
def Base.later {c:Ctx}{B:Nat}{w w':Og}(h:Base c w)(ay:Ap c.R B w w')(a1:c.lo<=B):Base c w':=by
 obtain⟨h0,⟨ck,h1,HL⟩,U,av,aN,bx,cf,g2,hb,hu,⟨t,fr,kU⟩,nR,f4,qm⟩:=h;exact⟨h0,⟨ck,by rw[ay.block _ Oe U];exact h1,HL⟩,U,by rw[ay.block _ Oe aN];exact av,aN,by rw[ay.block _ Oe cf];exact bx,cf,by rw[ay.block _ Oe hb];exact g2,hb,hu,⟨t,fr,by rw[ay.block _ Oe nR];exact kU⟩,nR,f4,Nat.le_trans qm ay.size⟩
def azm (c:Ctx)(i d:Nat):Obj:=OM #[c.tv,NY (i:Int),NY (d:Int),.map (some c.mS),.map (some c.mT),.map (some c.mV)] 233
structure PI (c:Ctx)(w:Og)(i d:Nat):Prop where
 base:Base c w
 blk:w.heap[c.R]? = some (azm c i d)
 lt:i<c.l.length
 deep:d<=30
def PI.later {c:Ctx}{w w':Og}{i d:Nat}(h:PI c w i d)(ay:Oo w w'):PI c w' i d:=
 ⟨h.base.later (Ap.of ay) h.base.size,by rw[ay.block _ (lt_of_heap h.blk)];exact h.blk,h.lt,h.deep⟩
def PI.ap {c:Ctx}{B:Nat}{w w':Og}{i d:Nat}(h:PI c w i d)(ay:Below B w w')(a1:c.lo<=B):PI c w' i d:=
 ⟨h.base.later (Ap.of ay) a1,by rw[ay.block _ (by have:=h.base.old;omega)];exact h.blk,h.lt,h.deep⟩
def PI.rlt {c:Ctx}{w:Og}{i d:Nat}(h:PI c w i d):c.R<w.heap.size:=lt_of_heap h.blk
section
variable {w:Og} {b:Nat} {cs:Array Ot} {t:TypeId}
include w b cs t
def cell_of {fr:Nat × Nat}(h:w.heap[b]? = some (.cells cs t fr))(o:Nat):w.cell? (N9 b o)=cs[o]?:=by
 simp[World.cell?,h]
def RN (h:w.heap[b]? = some (OM cs t))(o:Nat):w.frozen? (N9 b o)=false:=by
 simp[World.frozen?,h]
end
section
variable {c:Ctx} {w:Og} {i d:Nat} (h:PI c w i d)
include c w i d h
def PI.c0:w.cell? (N9 c.R 0)=some c.tv:=by rw[cell_of h.blk];rfl
def PI.c1:w.cell? (N9 c.R 1)=some (NY (i:Int)):=by rw[cell_of h.blk];rfl
def PI.c2:w.cell? (N9 c.R 2)=some (NY (d:Int)):=by rw[cell_of h.blk];rfl
def PI.c3:w.cell? (N9 c.R 3)=some (.map (some c.mS)):=by rw[cell_of h.blk];rfl
def PI.c4:w.cell? (N9 c.R 4)=some (.map (some c.mT)):=by rw[cell_of h.blk];rfl
def PI.c5:w.cell? (N9 c.R 5)=some (.map (some c.mV)):=by rw[cell_of h.blk];rfl
def PI.fz (o:Nat):w.frozen? (N9 c.R o)=false:=RN h.blk o
end
def heap_set {w:Og}{b o:Nat}{cs:Array Ot}{t:TypeId}{fr:Nat × Nat}(h:w.heap[b]? = some (.cells cs t fr))(v:Ot) :
  (w.setCell (N9 b o) v).heap[b]? = some (.cells (cs.setIfInBounds o v) t fr):=by
 obtain⟨hl,ao⟩:=Array.getElem?_eq_some_iff.1 h;have f8:b<(w.setCell (N9 b o) v).heap.size:=by simpa[World.setCell] using hl
 rw[Array.getElem?_eq_some_iff];refine⟨f8,?_⟩;simp only[World.setCell,Array.getElem_modify_self,ao];rfl
section
variable {c:Ctx} {w:Og} {i d:Nat} (h:PI c w i d)
include c w i d h
def PI.go (j:Nat)(aS:j<c.l.length):PI c (w.setCell (N9 c.R 1) (NY (j:Int))) j d:=
 ⟨h.base.later (Ap.setCell (R:=c.R) (Ap.refl _ _ _) (p:=(N9 c.R 1)) (Or.inr rfl) _) h.base.size,by rw[heap_set h.blk];rfl,aS,h.deep⟩
def PI.aGb (e:Nat)(ao:e<=30):PI c (w.setCell (N9 c.R 2) (NY (e:Int))) i e:=
 ⟨h.base.later (Ap.setCell (R:=c.R) (Ap.refl _ _ _) (p:=(N9 c.R 2)) (Or.inr rfl) _) h.base.size,by rw[heap_set h.blk];rfl,h.lt,ao⟩
end
def ZU (er:Int)(p:Nat):List PanicEntry:=[{ v:=.iface 148 (.agg #[NY er,NY (p:Int)]),recovered:=false }]
def P9 {α:Type}(c:Ctx)(w:Og)(d:Nat)(V:Og->α->Ot->Prop)(r:PR α)(e:Ending)(w':Og):Prop:=
 match r with
 | .ok x j=>(∃ v,e=OA v/\V w' x v)/\PI c w' j d/\Ap c.R w.heap.size w w'
 | .bad er p=>e=.panicked (ZU er p)/\Ap c.R w.heap.size w w'
 | .out=>True
def adu {a b:Ou}(h:a≠b):(a.toList==b.toList)=false:=by
 rw[beq_eq_false_iff_ne,ByteArray.toList_eq,ByteArray.toList_eq];exact fun e=>h (Go.WideShapes.bytes_inj e)
def au7 {a b:Ou}(h:a=b):(a.toList==b.toList)=true:=by rw[h];exact beq_self_eq_true _
section
variable {a b:Ou} {l:List UInt8} (hl:b.data.toList=l)
include a b l hl
def U6 (h:a≠b):(a.toList==l)=false:=by
 rw[<-hl,<-ByteArray.toList_eq];exact adu h
def Vz (h:a=b):(a.toList==l)=true:=by
 rw[<-hl,<-ByteArray.toList_eq];exact au7 h
end
def tkV (t:Tk):Ot:=.agg #[NY t.kd,Oj t.tx,NY t.n,NY (t.pl:Int)]
abbrev O1 (c:Ctx):Ot:=Oy c.R 0
def ak9:∀ (l:List Tk) (i j:Nat),i<l.length->j<4->(QT l)[i * 4+j]? =(Ws (OX l i))[j]?
 | [],i,j,h,_=>absurd h OW
 | t::l,0,j,_,aS=>by
  simp only[QT,List.flatMap_cons,OX,List.getD_cons_zero,Nat.zero_mul,Nat.zero_add];rw[List.getElem?_append_left (by simp[Ws];omega)]
 | t::l,i+1,j,h,aS=>by
  have bv:=ak9 l i j (by simpa using h) aS;simp only[QT,List.flatMap_cons,OX,List.getD_cons_succ] at bv ⊢;rw[List.getElem?_append_right (by simp[Ws];omega)]
  rw[show (i+1) * 4+j - (Ws t).length=i * 4+j by simp[Ws];omega]
  exact bv
def Base.tok {c:Ctx}{w:Og}(h:Base c w)(i j:Nat)(az:i<c.l.length)(aS:j<4):w.cell? (N9 c.tb (i * 4+j))=(Ws (OX c.l i))[j]?:=by
 obtain⟨ck,A,h1,U,av,aN⟩:=h.tokens;rw[cell_of A,<-ak9 c.l i j az aS,<-aN,List.getElem?_take_of_lt Oe,Array.getElem?_toList]
def Base.tlt {c:Ctx}{w:Og}(h:Base c w):c.tb<w.heap.size:=by
 obtain⟨ck,A,_⟩:=h.tokens;exact lt_of_heap A
def Rt (c:Ctx)(w:Og)(i d:Nat)(h:PI c w i d) :
  Oq 158 #[O1 c] w fun e w'=>e=OA (tkV (OX c.l i))/\Oo w w':=by
 have h0:w.cell? (N9 c.R 0)=some (.slice (some (N9 c.tb 0)) c.l.length c.cap):=h.c0;have h1:=h.c1;have dj:=h.rlt;have dZ:=h.base.tlt;have aM:(i:Int)<(c.l.length:Int):=by have:=h.lt;omega
 have b9:w.cell? (N9 c.tb (i * 4))=some (NY (OX c.l i).kd):=h.base.tok i 0 h.lt Ol;have bP:w.cell? (N9 c.tb (i * 4+1))=some (Oj (OX c.l i).tx):=h.base.tok i 1 h.lt Ol;have de:w.cell? (N9 c.tb (i * 4+2))=some (NY (OX c.l i).n):=h.base.tok i 2 h.lt Ol;have g8:w.cell? (N9 c.tb (i * 4+3))=some (NY ((OX c.l i).pl:Int)):=h.base.tok i 3 h.lt Ol;clear h;go_enter func158,ntmps158;go_wp2_with fail
 go_region
 go_wp2_with fail;exact bodyPost_ret (v:=tkV (OX c.l i)) (by simp[results,results158,go_sem,tkV]) rfl ⟨rfl,PE.drew⟩
def ala {a b:Ou}(h:a=b):Ending.returned (Oj a)=OA (Oj b):=by rw[h]
def RV (c:Ctx)(w:Og)(i d:Nat)(h:PI c w i d) :
  Oq 221 #[O1 c] w fun e w'=>e=OA (Oj (fx c.l i))/\Oo w w':=by
 have eR:=(Rt c w i d h);clear h
 cases U:(OX c.l i).kd==2
 ·
  cases bx:(OX c.l i).kd==5
  all_goals
   go_enter func221,ntmps221;go_wp2_with fail;refine cm eR ?_;rintro e w1 ⟨rfl,A⟩;have bO:=A;unfold tkV;go_wp2;go_ret;exact⟨ala (by simp[fx,U,bx]),bO.alloc bO.size _⟩
 ·go_enter func221,ntmps221;go_wp2_with fail;refine cm eR ?_;rintro e w1 ⟨rfl,A⟩;have bO:=A;unfold tkV;go_wp2;go_ret;exact⟨ala (by simp[fx,U]),bO.alloc bO.size _⟩
section
variable {α:Type} {c:Ctx} {w w':Og} {d:Nat} {V:Og->α->Ot->Prop} {r:PR α}
include α c w w' d V r
def Qc {er:Int}{p:Nat}(aa:r=.bad er p)(ay:Ap c.R w.heap.size w w') :
  P9 c w d V r (.panicked (ZU er p)) w':=by rw[aa];exact⟨rfl,ay⟩
def Tz {x:α}{j:Nat}{v:Ot}(aa:r=.ok x j)(am:V w' x v)(hd:PI c w' j d)(ay:Ap c.R w.heap.size w w') :
  P9 c w d V r (OA v) w':=by rw[aa];exact⟨⟨v,rfl,am⟩,hd,ay⟩
end
def acE (c:Ctx)(er:Int)(t:Tk)(w:Og) :
  Oq 279 #[O1 c,NY er,tkV t] w fun e w'=>e=.panicked (ZU er t.pl)/\Oo w w':=by
 unfold tkV;go_enter func279,ntmps279;go_wp2_with fail;exact⟨rfl,rfl,PE⟩
def Vb (c:Ctx)(er:Int)(w:Og)(i d:Nat)(h:PI c w i d) :
  Oq 222 #[O1 c,NY er] w fun e w'=>e=.panicked (ZU er (OX c.l i).pl)/\Oo w w':=by
 have eR:=(Rt c w i d h);go_enter func222,ntmps222;go_wp2_with fail;refine cm eR ?_;rintro e w1 ⟨rfl,A⟩;have hR:=(acE c er (OX c.l i) w1);go_wp2_with fail;refine cm hR ?_;rintro e w2 ⟨rfl,aE⟩;exact⟨rfl,rfl,A.trans (aE.mono A.size)⟩
def PI.go2 {c:Ctx}{w:Og}{i d:Nat}(h:PI c w i d)(j:Nat)(aS:j<c.l.length){v:Int}(am:v=(j:Int)):PI c (w.setCell (N9 c.R 1) (NY v)) j d:=by
 subst am;exact h.go j aS
def ZO {c:Ctx}{w w1:Og}(A:Oo w w1)(v:Ot)(o:Nat):Ap c.R w.heap.size w (w1.setCell (N9 c.R o) v):=
 Ap.setCell (R:=c.R) (Ap.of A) (p:=(N9 c.R o)) (Or.inr rfl) _
section
variable (c:Ctx) (s:Ou) (w:Og) (i d:Nat) (h:PI c w i d)
include c s w i d h
def RU (ab:fx c.l i=s)(ax:s≠Oh) :
  Oq 223 #[O1 c,Oj s] w fun e w'=>e=OA (Om true)/\PI c w' (i+1) d/\Ap c.R w.heap.size w w':=by
 have eR:=(RV c w i d h);have az:i+1<c.l.length:=Wl h.base.ends h.lt ab ax;have dA:=h.base.len;subst ab;clear ax;go_enter func223,ntmps223;go_wp2_with fail;refine cm eR ?_;rintro e w1 ⟨rfl,A⟩;have bN:=(h.later A);have h1:=bN.c1;have aH:=bN.fz;go_wp2;go_ret;exact⟨rfl,bN.go2 (i+1) az Oe,ZO A _ _⟩
def TA (ab:fx c.l i≠s) :
  Oq 223 #[O1 c,Oj s] w fun e w'=>e=OA (Om false)/\Oo w w':=by
 have eR:=(RV c w i d h);have gj:=adu ab;clear ab;go_enter func223,ntmps223;go_wp2_with fail;refine cm eR ?_;rintro e w1 ⟨rfl,A⟩;go_wp2;go_ret;exact⟨rfl,A⟩
end
abbrev UV:Og->Unit->Ot->Prop:=fun _ _ v=>v=.tuple #[]
def O5 (c:Ctx)(s:Ou)(w:Og)(i d:Nat)(h:PI c w i d)(ax:s≠Oh) :
  Oq 225 #[O1 c,Oj s] w (P9 c w d UV (O6 c.l s i)):=by
 by_cases ab:fx c.l i=s
 ·have eR:=(RU c s w i d h ab ax);have aR:O6 c.l s i=.ok () (i+1):=by unfold O6;rw[if_pos ab]
  rw[aR];clear ax ab aR;go_enter func225,ntmps225;go_wp2_with fail;refine cm eR ?_;rintro e w1 ⟨rfl,aa,ay⟩;have dy:=aa;go_wp2
  go_end0
  exact Tz rfl rfl dy ay
 ·have eR:=(TA c s w i d h ab);have aR:O6 c.l s i=.bad 3 (OX c.l i).pl:=by unfold O6;rw[if_neg ab];rfl
  rw[aR];have dy:=h;clear ax ab aR;go_enter func225,ntmps225;go_wp2_with fail;refine cm eR ?_;rintro e w1 ⟨rfl,A⟩;have hR:=(Vb c 3 w1 i d (dy.later A));go_wp2_with fail;refine cm hR ?_;rintro e w2 ⟨rfl,aE⟩;exact⟨rfl,Qc rfl (Ap.of (A.trans (aE.mono A.size)))⟩
def abe (t:Tk)(W:Og):(Instr.field 144 (.agg #[NY t.kd,Oj t.tx,NY t.n,NY (t.pl:Int)]) 0).run prog W=.ok (NY t.kd) W:=by kernel_rfl
def ale (t:Tk)(W:Og):(Instr.field 144 (.agg #[NY t.kd,Oj t.tx,NY t.n,NY (t.pl:Int)]) 1).run prog W=.ok (Oj t.tx) W:=by kernel_rfl
def Zb (c:Ctx)(w:Og)(i d:Nat)(h:PI c w i d) :
  Oq 228 #[O1 c] w fun e w'=>e=OA (Om (isName c.l i))/\Oo w w':=by
 have eR:=(Rt c w i d h);go_enter func228,ntmps228;go_wp2_with fail;refine cm eR ?_;rintro e w1 ⟨rfl,A⟩;have fO:=abe (OX c.l i);unfold tkV;go_wp2;go_ret;exact⟨rfl,A⟩
abbrev SV:Og->Ou->Ot->Prop:=fun _ s v=>v=Oj s
def name_any (c:Ctx)(w:Og)(i d:Nat)(h:PI c w i d) :
  Oq 220 #[O1 c] w (P9 c w d SV (nameP c.l i)):=by
 have dP:=(Zb c w i d h)
 by_cases ab:(OX c.l i).kd=1
 ·have aR:nameP c.l i=.ok (OX c.l i).tx (i+1):=by unfold nameP;rw[if_pos ab]
  have az:i+1<c.l.length:=Vh h.base.ends h.lt (by rw[ab];decide)
  have dA:=h.base.len;have E:isName c.l i=true:=by unfold isName;rw[ab];rfl
  rw[aR];rw[E] at dP;have dy:=h;clear h ab aR E;go_enter func220,ntmps220;go_wp2_with fail;refine cm dP ?_;rintro e w1 ⟨rfl,A⟩;have bO:=A;have bN:=(dy.later A);have eR:=(Rt c w1 i d bN);go_wp2_with fail;refine cm eR ?_;rintro e w2 ⟨rfl,A⟩;have cq:=(bO.trans (A.mono bO.size));have bq:=(bN.later A);have h1:=bq.c1;have aH:=bq.fz;have fO:=ale (OX c.l i);unfold tkV;go_wp2;go_ret;exact Tz rfl rfl (bq.go2 (i+1) az Oe) (ZO cq _ _)
 ·have aR:nameP c.l i=.bad 3 (OX c.l i).pl:=by unfold nameP;rw[if_neg ab];rfl
  have E:isName c.l i=false:=by unfold isName;exact beq_eq_false_iff_ne.2 ab
  rw[aR];rw[E] at dP;have dy:=h;clear h ab aR E;go_enter func220,ntmps220;go_wp2_with fail;refine cm dP ?_;rintro e w1 ⟨rfl,A⟩;have bO:=A;have hR:=(Vb c 3 w1 i d (dy.later A));go_wp2_with fail;refine cm hR ?_;rintro e w2 ⟨rfl,aE⟩;exact⟨rfl,Qc rfl (Ap.of (bO.trans (aE.mono bO.size)))⟩
def PG (kd:Int)(tx:Ou)(v:Ot)(w:Og)(am:∃ a n cap,v=.slice a n cap) :
  Oq 162 #[NY kd,Oj tx,v] w fun e w'=>e=OA (N7 w.heap.size)/\w'=w.alloc (O7 kd tx 0 v):=by
 obtain⟨a,n,cap,rfl⟩:=am;go_enter func162,ntmps162;go_wp2;go_ret;exact⟨rfl,rfl⟩
def amO (a b:Ou):(a==b)=decide (a=b):=by
 by_cases h:a=b
 ·subst h;rw[decide_eq_true rfl]
  cases a with
  | mk a=>
   show (a==a)=true
   exact beq_self_eq_true _
 ·rw[decide_eq_false h]
  cases a with
  | mk a=>cases b with
   | mk b=>
    show (a==b)=false
    rw[beq_eq_false_iff_ne];exact fun e=>h (by rw[e])
def aav (s:Ou):∀ (l:List (Ou × Ot)) (n i:Nat),
  ∃ o,Instr.findNow .string (Oj s) ((l.zipIdx n).map mkE) i=some o/\o.map (·.2)=(l.find? (fun e=>decide (s=e.1))).map (·.2)
 | [],n,i=>⟨none,rfl,rfl⟩
 | e::l,n,i=>by
  simp only[List.zipIdx_cons,List.map_cons,Instr.findNow,mkE,Instr.sameNow,amO,List.find?_cons]
  cases h:decide (s=e.1)
  ·simp only;exact aav s l (n+1) (i+1)
  ·exact⟨some (i,e.2),rfl,rfl⟩
def Y9 (T kI:TypeId)(m k:Nat)(l:List (Ou × Ot))(s:Ou)(bB:Ot)(W:Og)(dZ:prog.underlying T=some (.map 9 kI))(aR:W.heap[m]? = some (.map (mapOf l) k))(aH:(zeroValue kI).run prog W=.ok bB W) :
  (Instr.lookup T (.map (some m)) (Oj s) true).run prog W=.ok (.tuple #[((l.find? (fun e=>decide (s=e.1))).map (·.2)).getD bB,Om (l.find? (fun e=>decide (s=e.1))).isSome]) W:=by
 have⟨o,h1,U⟩:=aav s l 0 0;have hu:=underlying9;have av:(Instr.findKey 9 (Oj s) (mapOf l).toList).run prog W=.ok o W:=by
  unfold Instr.findKey;rw[Sem.run_bind,run_underlying hu W];simp only[Result.andThen_ok,mapOf];rw[h1];rfl
 unfold Instr.lookup;rw[Sem.run_bind,run_underlying dZ W];have eJ:∀ b,(Instr.checkKey b 10000 9 (Oj s)).run prog W=.ok () W:=by
  intro b;rw[Instr.checkKey,Sem.run_bind,run_underlying hu W];rfl
 have hg:(getObj m).run prog W=.ok (.map (mapOf l) k) W:=by simp[getObj,Sem.run,aR]
 simp only[Result.andThen_ok,Sem.run_bind,hg,Sem.run_pure,eJ,av]
 cases o with
 | none=>
  cases aF:l.find? (fun e=>decide (s=e.1)) with
  | none=>simp[aH]
  | some x=>rw[aF] at U;simp at U
 | some y=>
  cases aF:l.find? (fun e=>decide (s=e.1)) with
  | none=>rw[aF] at U;simp at U
  | some x=>rw[aF] at U;simp at U;simp[U]
def ap9:Ot:=.agg #[Pm,NY 0,NY 0,NY 0]
def atJ (o:Option Sg):Ot:=match o with|some s=>sgV s|none=>ap9
def Xv (c:Ctx)(s:Ou)(W:Og)(h:W.heap[c.mS]? = some (.map aj7 14)) :
  (Instr.lookup 229 (.map (some c.mS)) (Oj s) true).run prog W=.ok (.tuple #[atJ (Zn s),Om (Zn s).isSome]) W:=by
 rw[Y9 229 275 c.mS 14 _ s ap9 W underlying229 h Pe];unfold Zn;rw[List.find?_map];simp only[Function.comp_def]
 cases sgs.find? (fun e=>decide (s=e.tx)) <;> rfl
def aFj (R:Nat)(o:Option Nat):Ot:=match o with|some q=>U5 R (avn q)|none=>.nilFunc
def aFk (R:Nat)(o:Option Nat):Ot:=match o with|some q=>U5 R (afX q)|none=>.nilFunc
def adW (c:Ctx)(s:Ou)(W:Og)(h:W.heap[c.mT]? = some (.map (afY c.R) 12)) :
  (Instr.lookup 231 (.map (some c.mT)) (Oj s) true).run prog W=.ok (.tuple #[aFj c.R (QC Un s),Om (QC Un s).isSome]) W:=by
 rw[Y9 231 281 c.mT 12 _ s .nilFunc W underlying231 h Pe];unfold QC;rw[List.find?_map];simp only[Function.comp_def]
 cases Un.find? (fun e=>decide (s=e.1)) <;> rfl
def adV (c:Ctx)(s:Ou)(W:Og)(h:W.heap[c.mV]? = some (.map (aj8 c.R) 3)) :
  (Instr.lookup 231 (.map (some c.mV)) (Oj s) true).run prog W=.ok (.tuple #[aFk c.R (QC SE s),Om (QC SE s).isSome]) W:=by
 rw[Y9 231 281 c.mV 3 _ s .nilFunc W underlying231 h Pe];unfold QC;rw[List.find?_map];simp only[Function.comp_def]
 cases SE.find? (fun e=>decide (s=e.1)) <;> rfl
def ayB:VK.size=16:=by decide +kernel
def aFG (k:Nat)(E:k<8)(W:Og):(Instr.index 285 (.agg VK) (NY (k:Int))).run prog W=.ok (.agg #[Oj (hds.getD k (Oh,0)).1,NY (hds.getD k (Oh,0)).2]) W:=by
 have h:k=0\/k=1\/k=2\/k=3\/k=4\/k=5\/k=6\/k=7:=Oe
 rcases h with rfl|rfl|rfl|rfl|rfl|rfl|rfl|rfl <;> (show _=_;kernel_rfl)
def ayC {s:Ou}{j:Nat}(aS:j<8)(h0:∀ q,q<j->s≠(hds.getD q (Oh,0)).1)(h:s=(hds.getD j (Oh,0)).1):Ql s=(hds.getD j (Oh,0)).2:=by
 have key:∀ (l:List (Ou × Int)) (j:Nat),j<l.length->(∀ q,q<j->s≠(l.getD q (Oh,0)).1)->s=(l.getD j (Oh,0)).1->(QC l s).getD 0=(l.getD j (Oh,0)).2:=by
  intro l
  induction l with
  | nil=>intro j aS;exact absurd aS OW
  | cons e l bv=>
   intro j aS h0 h;unfold QC;rw[List.find?_cons]
   cases j with
   | zero=>
    simp only[List.getD_cons_zero] at h ⊢;rw[decide_eq_true h];rfl
   | succ j=>
    have:=h0 0 Oe;simp only[List.getD_cons_zero] at this;rw[decide_eq_false this];exact bv j (by simpa using aS) (fun q ag=>by simpa using h0 (q+1) Oe) (by simpa using h)
 exact key hds j (by simpa[hds] using aS) h0 h
def auv {s:Ou}(h0:∀ q,q<8->s≠(hds.getD q (Oh,0)).1):Ql s=0:=by
 unfold Ql QC;have:hds.find? (fun e=>decide (s=e.1))=none:=by
  rw[List.find?_eq_none];intro e ao;obtain⟨q,ag,rfl⟩:=List.getElem_of_mem ao;have I7:q<8:=by simpa[hds] using ag
  have:=h0 q I7;rw[List.getD_eq_getElem?_getD,List.getElem?_eq_getElem ag] at this;simpa using this
 rw[this];rfl
def afp (s:Ou)(w:Og)(t:TypeId)(fr:Nat × Nat)(hg:w.heap[4]? = some (.cells VK t fr)) :
  Oq 278 #[Oj s] w fun e w'=>e=OA (NY (Ql s))/\Oo w w':=by
 have gZ:=hide hg;have⟨cs,fG⟩:=xE VK;have oS:∀ k:Nat,k<8->∀ W,(Instr.index 285 (.agg cs) (NY (k:Int))).run prog W=.ok (.agg #[Oj (hds.getD k (Oh,0)).1,NY (hds.getD k (Oh,0)).2]) W:=by rw[fG];exact aFG
 have da:cs.size=16:=by rw[fG];exact ayB
 rw[<-fG] at gZ;have sd:=hide oS;have sB:=hide da;clear hg oS fG da;go_enter func278,ntmps278
 go_wp2_with (refine wpList_load_row rfl 285 _ rfl 4 rfl t cs fr _ gZ.out underlying285 rfl (by rw[sB.out];kernel_rfl) ?_)
 go_loopw [6] (fun i wr=>∃ j:Nat,j<=8/\i=NY j/\(∀ q,q<j->s≠(hds.getD q (Oh,0)).1)/\Oo w wr) (fun i _=>8 - (intOf i).toNat)
 case atStart=>exact⟨0,Nat.zero_le _,rfl,fun q ag=>absurd ag (Nat.not_lt_zero _),QI⟩
 case round=>
  obtain⟨j,aS,rfl,ao,hbel⟩:=hrel;have dB:=hide ao;clear ao
  by_cases aM:j<8
  ·have eJ:=NZ sd j aM;have⟨g,hg⟩:=xE ((hds.getD j (Oh,0)).1);have⟨n,Co⟩:=xH ((hds.getD j (Oh,0)).2);rw[<-hg,<-Co.out] at eJ;have ve:=hide hg;clear hg
   by_cases al:g=s
   ·have A:=au7 al;have HP:=hide al;clear al;go_wp2;go_ret;refine⟨abb ?_,hbel.alloc hbel.size _⟩;rw[ayC aM dB.out (by rw[<-ve.out];exact HP.out.symm),Co.out]
   ·have A:=adu al;have HP:=hide al;clear al;go_wp2
    go_roundw
    case rel=>exact⟨j+1,by omega,by go_num,fun q ag=>by (by_cases A5:q=j);(rw[A5,<-ve.out];exact fun e=>NZ HP e.symm);exact NZ dB q Oe,hbel.alloc hbel.size _⟩
    case measure=>simp[intOf];omega
  ·go_wp2;go_ret;exact⟨abb (auv (fun q ag=>NZ dB q Oe)).symm,hbel⟩
def Zr (c:Ctx)(w:Og)(i d:Nat)(h:PI c w i d)(E:(OX c.l i).kd≠6) :
  Oq 219 #[O1 c] w fun e w'=>e=OA (NY (Ql (OX c.l i).tx))/\PI c w' (i+1) d/\Ap c.R w.heap.size w w':=by
 have eR:=(Rt c w i d h);have az:i+1<c.l.length:=Vh h.base.ends h.lt E;have dA:=h.base.len;clear E;go_enter func219,ntmps219;go_wp2_with fail;refine cm eR ?_;rintro e w1 ⟨rfl,A⟩;have bO:=A;have bN:=(h.later A);obtain⟨t,fr,aN⟩:=bN.base.heads;have f1:=(afp (OX c.l i).tx w1 t fr aN);have fO:=ale (OX c.l i);clear aN;unfold tkV;go_wp2_with fail;refine cm f1 ?_;rintro e w2 ⟨rfl,A⟩;have cq:=(bO.trans (A.mono bO.size));have bq:=(bN.later A);have h1:=bq.c1;have aH:=bq.fz;go_wp2;go_ret
 exact⟨rfl,bq.go2 (i+1) az Oe,ZO cq _ _⟩
def Does (c:Ctx)(f:Nat)(V:Nat->Og->Tr->Ot->Prop)(nx:Nat->Nat->PR Tr):Prop:=
 ∀ w d i r,nx d i=r->r≠.out->PI c w i d->Oq f #[O1 c] w (P9 c w d (V w.heap.size) r)
def Rh (R f:Nat)(W:Og):(Instr.makeFunc (.func f) #[Oy R 0] #[]).run prog W=.ok (U5 R f) W:=rfl
def PI.ava {c:Ctx}{w:Og}{i d:Nat}(h:PI c w i d)(e:Nat)(ao:e<=30){v:Int}(am:v=(e:Int)):PI c (w.setCell (N9 c.R 2) (NY v)) i e:=by
 subst am;exact h.aGb e ao
def Zd (c:Ctx)(f:Nat)(nx:Nat->Nat->PR Tr)(aF:Does c f NV nx)(jv:VH f)
  (w:Og) (d i:Nat) (r:PR Tr) (aa:Pn c.l nx d i=r) (aO:r≠.out) (h:PI c w i d):Oq 159 #[O1 c,U5 c.R f] w (P9 c w d (NV w.heap.size) r):=by
 have U:=h.c2;have aH:=h.fz;have hd:=h.deep
 by_cases z1:d=30
 ·have hR:=(Vb c 4 w i d h);subst z1;unfold Pn at aa;rw[if_pos rfl] at aa;have a':=hide aa;clear aa aO jv hd;go_enter func159,ntmps159;go_wp2_with fail;refine cm hR ?_;rintro e w1 ⟨rfl,A⟩;exact⟨rfl,Qc a'.out.symm (Ap.of A)⟩
 ·unfold Pn at aa;rw[if_neg z1] at aa;have LQ:((d:Int)==30)=false:=beq_eq_false_iff_ne.2 Oe;have aj:Hid _:=aF (w.setCell (N9 c.R 2) (NY ((d:Int)+1))) (d+1) i r aa aO (h.ava (d+1) Oe Oe);have dp:=hide aO;clear aa aO;unfold U5;go_enter func159,ntmps159;go_wp2_with fail;refine cm aj.out ?_;intro e w1 al
  cases r with
  | out=>exact absurd rfl dp.out
  | bad er p=>
   obtain⟨rfl,ay⟩:=al;refine⟨rfl,Qc rfl ?_⟩;exact(ZO (c:=c) (Below.refl _ w) _ 2).trans (by simpa using ay)
  | ok x j=>
   obtain⟨⟨v,rfl,am⟩,ba,ay⟩:=al;have k6:=((ZO (c:=c) (Below.refl _ w) (NY ((d:Int)+1)) 2).trans (by simpa using ay));have cX:=ba.c2;have LG:=ba.fz;clear aH U;go_wp2;go_ret;have eg:=fun v=>k6.trans (Ap.setCell (R:=c.R) (B:=w.heap.size) (Ap.refl _ _ _) (p:=(N9 c.R 2)) (Or.inr rfl) v);have aM:=h.rlt;refine Tz rfl ?_ (ba.ava d hd Oe) (eg _);exact NV.later (R:=c.R) (by simpa using am) (Ap.setCell (R:=c.R) (Ap.refl _ _ _) (p:=(N9 c.R 2)) (Or.inr rfl) _) aM
def WS {w:Og}{B:Nat}{u:Ot}{ps:List Nat}(h:w.ownsRow B 22 1 u ps.length (ps.map N7))(cC:0<ps.length) :
  ∃ g cap,u=.slice (some (N9 g 0)) ps.length cap/\∀ j,(aS:j<ps.length)->w.cell? (N9 g j)=some (N7 ps[j]):=by
 rcases h.2 with ax|⟨g,cap,ck,am,A,hg,h1,U,av,aN⟩
 ·omega
 ·refine⟨g,cap,am,fun j aS=>?_⟩;rw[cell_of hg,<-Array.getElem?_toList];have:(ck.toList.take (ps.length * 1))[j]? =(ps.map N7)[j]?:=by rw[aN]
  rw[List.getElem?_take_of_lt Oe] at this;rw[this,List.getElem?_map,List.getElem?_eq_getElem aS];rfl
def UL {w:Og}{B:Nat}{u:Ot}{n:Nat}{xs:List Ot}(h:w.ownsRow B 22 1 u n xs):∃ a cap,u=.slice a n cap:=by
 rcases h.2 with ax|⟨g,cap,ck,am,_⟩
 ·exact⟨none,0,by rw[ax.1,ax.2]⟩
 ·exact⟨_,cap,am⟩
def Xy {t:Tr}(h:∀ bP r de bY,t.kids=bP::r->bP.kids=de::bY->bP.kd=15->de.kd=18->de.tx≠aaP):U0 t=t:=by
 unfold U0
 split
 ·rename_i kd tx n bP kG bT de t2 cY mN bY r
  rw[if_neg];rintro⟨a,b,e⟩;exact h _ _ _ _ rfl rfl a b e
 ·rfl
def afq {t bP de:Tr}{r bY:List Tr}(h1:t.kids=bP::r)(U:bP.kids=de::bY)(av:bP.kd=15)(aN:de.kd=18)(bx:de.tx=aaP):U0 t=.mk t.kd TF t.n t.kids:=by
 cases t with
 | mk kd tx n ks=>
  simp only[Tr.kids] at h1;subst h1
  cases bP with
  | mk a b c aW=>
   simp only[Tr.kids] at U;subst U
   cases de with
   | mk a2 b2 c2 gt=>
    simp only[Tr.kd,Tr.tx] at av aN bx;simp only[U0,Tr.kd,Tr.n,Tr.kids];rw[if_pos ⟨av,aN,bx⟩]
def EV.text {B:Nat}{w:Og}{t:Tr}{p:Nat}(h:EV B w t (N7 p))(s:Ou):EV B (w.setCell (N9 p 1) (Oj s)) (.mk t.kd s t.n t.kids) (N7 p):=by
 obtain⟨cu,u,ps,ao,al,A,aa,aQ,E⟩:=h;have:cu=p:=by simpa[N7] using ao.symm
 subst this;have ab:∀ b,b≠cu->(w.setCell (N9 cu 1) (Oj s)).heap[b]? = w.heap[b]?:=fun b A=>Below.heap_setCell w (N9 cu 1) _ b A;refine⟨cu,u,ps,rfl,al,by rw[heap_set A];rfl,?_,aQ,Oz.later (fun b h _=>ab b h.2.1) _ _ E⟩
 exact Q8 (I:=fun b=>b≠cu) (fun b h _=>ab b h) (fun g hg e=>aQ (by rw[hg,e])) aa
def node_cells {w:Og}{p:Nat}{kd n:Int}{tx:Ou}{u:Ot}(h:w.heap[p]? = some (O7 kd tx n u)) :
  w.cell? (N9 p 0)=some (NY kd)/\w.cell? (N9 p 1)=some (Oj tx)/\w.cell? (N9 p 2)=some (NY n)/\w.cell? (N9 p 3)=some u/\(∀ o,w.frozen? (N9 p o)=false):=
 ⟨by rw[cell_of h];rfl,by rw[cell_of h];rfl,by rw[cell_of h];rfl,by rw[cell_of h];rfl,RN h⟩
section
variable {I:Nat->Prop} {w:Og} {t:Tr}
include I w t
def PO.opens {p:Nat}(h:PO I w t p):∃ u ps,w.heap[p]? = some (O7 t.kd t.tx t.n u)/\w.ownsRow 0 22 1 u ps.length (ps.map N7)/\Oz I w t.kids ps:=by
 cases t with
 | mk kd tx n ks=>
  rw[PO] at h;obtain⟨_,u,ps,h1,U,av⟩:=h;exact⟨u,ps,h1,U.1,Oz.mono (fun b A _=>A.1) _ _ av⟩
def Oz.head {ap:List Tr}{ps:List Nat}(h:Oz I w (t::ap) ps):∃ p eH,ps=p::eH/\PO I w t p:=by
 obtain⟨p,eH,e,h1,_⟩:=h.parts;exact⟨p,eH,e,h1⟩
end
def aqC (t:Tr):Prop:=∀ bP r,t.kids=bP::r->bP.kd=15->∃ de bY,bP.kids=de::bY
def X7 (B:Nat)(t:Tr)(v:Ot)(w:Og)(h:EV B w t v)(ao:aqC t) :
  Oq 161 #[v] w fun e w'=>e=OA v/\EV B w' (U0 t) v/\Below B w w':=by
 have dB:=h;obtain⟨p,u,ps,rfl,al,A,aa,aQ,E⟩:=h;have⟨_,_,_,fT,fz⟩:=node_cells A;have HP:=hide al;have hlen:=Oz.length _ _ E
 cases eL:t.kids with
 | nil=>
  rw[eL] at hlen;have h0:ps.length=0:=hlen;have⟨a,cap,k0⟩:=UL aa;rw[h0] at k0;subst k0;have aj:=hide (Xy (t:=t) (fun bP r de bY e=>by rw[eL] at e;cases e))
  clear A aQ hlen eL h0 al fz;exact atI
 | cons bP r=>
  rw[eL] at hlen E;have h0:0<ps.length:=by rw[hlen];simp
  have⟨g,cap,k0,hcell⟩:=WS aa h0;subst k0;have⟨p1,ND,wy,f9⟩:=Oz.head E;have c0:w.cell? (N9 g 0)=some (N7 p1):=by
   rw[hcell 0 h0];simp[wy]
  obtain⟨gp,dI,bZ,hr1,iT⟩:=f9.opens;have⟨t6,_,_,C8,_⟩:=node_cells bZ;have LJ:(0:Int)<(ps.length:Int):=Oe
  by_cases jd:bP.kd=15
  ·have⟨de,bY,eK⟩:=ao bP r eL jd;rw[eK] at iT;have hlen1:=Oz.length _ _ iT;have Dc:0<dI.length:=by rw[hlen1];simp
   have⟨bK,cap1,Js,hcell1⟩:=WS hr1 Dc;subst Js;have⟨cp,NE,ym,jQ⟩:=Oz.head iT;have gH:w.cell? (N9 bK 0)=some (N7 cp):=by
    rw[hcell1 0 Dc];simp[ym]
   obtain⟨gb,NG,aE,_,_⟩:=jQ.opens;have⟨Lv,Lw,_,_,_⟩:=node_cells aE;have LH:(0:Int)<(dI.length:Int):=Oe;have Hf:(bP.kd==15)=true:=beq_iff_eq.2 jd
   by_cases qn:de.kd=18
   ·have Hg:(de.kd==18)=true:=beq_iff_eq.2 qn
    by_cases k0:de.tx=aaP
    ·have aj:=hide (afq eL eK jd qn k0);have Ho:(de.tx.toList==[117,115,101,32,115,116,114,105,99,116])=true:=Vz (b:=aaP) rfl k0;clear A aQ hlen eL al bZ aE hcell hcell1 hlen1 eK jd qn k0 wy ym;go_enter func161,ntmps161;go_wp2;go_ret;exact⟨rfl,by rw[aj.out];exact dB.text _,QI.setCell (p:=(N9 p 1)) HP.out _⟩
    ·have aj:=hide (Xy (t:=t) (fun j4 qT a2 EW aw bi _ _ e=>by rw[eL] at aw;cases aw;rw[eK] at bi;cases bi;exact k0 e))
     have Ho:(de.tx.toList==[117,115,101,32,115,116,114,105,99,116])=false:=U6 (b:=aaP) rfl k0;clear A aQ hlen eL al bZ aE hcell hcell1 hlen1 eK jd qn k0 wy ym;exact atI
   ·have Hg:(de.kd==18)=false:=beq_eq_false_iff_ne.2 qn;have aj:=hide (Xy (t:=t) (fun j4 qT a2 EW aw bi _ e=>by rw[eL] at aw;cases aw;rw[eK] at bi;cases bi;exact absurd e qn))
    clear A aQ hlen eL al bZ aE hcell hcell1 hlen1 eK jd qn wy ym;exact atI
  ·have Hf:(bP.kd==15)=false:=beq_eq_false_iff_ne.2 jd;have aj:=hide (Xy (t:=t) (fun j4 qT a2 EW aw _ e=>by rw[eL] at aw;cases aw;exact absurd e jd))
   clear A aQ hlen eL al bZ hcell jd wy;exact atI
section
variable {c:Ctx} {w:Og} {i d:Nat} (h:PI c w i d)
include c w i d h
def PI.drew:PI c w.drew i d:=h.later QI.drew
def PI.alloc (o:Obj):PI c (w.alloc o) i d:=h.later PE
end
abbrev SY:Obj:=.cells #[Pm,NY 0,NY 0,NY 0] 275
def aai {w:Og}{b:Nat}{a0 j4 a2 a3:Ot}{t:TypeId}{fr:Nat × Nat}(h:w.heap[b]? = some (.cells #[a0,j4,a2,a3] t fr))(v0 v1 v2 v3:Ot) :
  ((((w.setCell (N9 b 0) v0).setCell (N9 b 1) v1).setCell (N9 b 2) v2).setCell (N9 b 3) v3).heap[b]? = some (.cells #[v0,v1,v2,v3] t fr):=by
 rw[heap_set (heap_set (heap_set (heap_set h v0) v1) v2) v3];rfl
def ajH (b:Nat)(w1:Og)(v0 v1 v2 v3:Ot):Prop:=
 w1.cell? (N9 b 0)=some v0/\w1.cell? (N9 b 1)=some v1/\w1.cell? (N9 b 2)=some v2/\w1.cell? (N9 b 3)=some v3/\(∀ o,w1.frozen? (N9 b o)=false)/\b<w1.heap.size
def c160 {b:Nat}{w1:Og}{v0 v1 v2 v3:Ot}(aU:w1.heap[b]? = some (.cells #[v0,v1,v2,v3] 275)):ajH b w1 v0 v1 v2 v3:=
 ⟨by rw[cell_of aU];rfl,by rw[cell_of aU];rfl,by rw[cell_of aU];rfl,by rw[cell_of aU];rfl,RN aU,lt_of_heap aU⟩
section
variable {c:Ctx} {w w1:Og} {i d:Nat} (h:PI c w i d)
include c w w1 i d h
def ayb (A:Below (w.alloc SY).drew.heap.size (w.alloc SY).drew w1) :
  PI c w1 i d/\Oo w w1/\w1.heap[w.heap.size]? = some SY:=
 ⟨(h.alloc SY).drew.later A,((QI.alloc Pg SY).drew).trans (A.mono OW),(A.block _ OW).trans (Oi w SY)⟩
def ax3 (A:Below ((w.alloc SY).alloc SY).drew.heap.size ((w.alloc SY).alloc SY).drew w1) :
  PI c w1 i d/\Oo w w1/\w1.heap[w.heap.size]? = some SY/\w1.heap[w.heap.size+1]? = some SY:=by
 refine⟨((h.alloc SY).alloc SY).drew.later A,(((QI.alloc Pg SY).alloc OW SY).drew).trans (A.mono QY),(A.block _ QY).trans ((Below.heap_alloc (w.alloc SY) SY w.heap.size OW).trans (Oi w SY)),?_⟩;have:=Oi (w.alloc SY) SY;simp only[World.size_alloc] at this;exact(A.block _ OW).trans this
end
section
variable {c:Ctx} {w w1 gG:Og} {i d:Nat} {v0 v1 v2 v3:Ot} (h:PI c w1 i d)
include c w w1 gG i d v0 v1 v2 v3 h
def ajM (n1:c.lo<=w.heap.size)(aU:w1.heap[w.heap.size]? = some SY)(p1:w1.heap[w.heap.size+1]? = some SY)(A:Oo w w1)(a6:gG=(((w1.setCell (N9 (w.heap.size+1) 0) v0).setCell (N9 (w.heap.size+1) 1) v1).setCell (N9 (w.heap.size+1) 2) v2).setCell (N9 (w.heap.size+1) 3) v3) :
  PI c gG i d/\Oo w gG/\ajH w.heap.size gG (Pm) (NY 0) (NY 0) (NY 0)/\ajH (w.heap.size+1) gG v0 v1 v2 v3:=by
 have a1:Below (w.heap.size+1) w1 gG:=by
  rw[a6];exact((((Below.refl _ w1).setCell (p:=(N9 (w.heap.size+1) 0)) Pg v0).setCell (p:=(N9 (w.heap.size+1) 1)) Pg v1).setCell (p:=(N9 (w.heap.size+1) 2)) Pg v2).setCell (p:=(N9 (w.heap.size+1) 3)) Pg v3
 refine⟨h.ap a1 Oe,A.trans (a1.mono Oe),c160 ((a1.block _ Oe).trans aU),c160 ?_⟩;rw[a6];exact aai p1 v0 v1 v2 v3
def ajN (aU:w1.heap[w.heap.size]? = some SY)(A:Oo w w1)(a6:gG=w1.alloc (.cells #[v0,v1,v2,v3] 275)) :
  PI c gG i d/\Oo w gG/\ajH w.heap.size gG (Pm) (NY 0) (NY 0) (NY 0)/\ajH w1.heap.size gG v0 v1 v2 v3:=by
 subst a6;exact⟨h.alloc _,A.alloc A.size _,c160 ((Below.heap_alloc _ _ _ (lt_of_heap aU)).trans aU),c160 (Oi _ _)⟩
end
def ap8 {w gG:Og}{b:Nat}(A:Oo w gG)(h:w.heap.size<=b)(v0 v1 v2 v3:Ot) :
  Oo w ((((gG.setCell (N9 b 0) v0).setCell (N9 b 1) v1).setCell (N9 b 2) v2).setCell (N9 b 3) v3):=
 (((A.setCell (p:=(N9 b 0)) h _).setCell (p:=(N9 b 1)) h _).setCell (p:=(N9 b 2)) h _).setCell (p:=(N9 b 3)) h _
def am2 (c:Ctx)(k:Int)(s:Ou)(w:Og)(i d:Nat)(h:PI c w i d)(ab:s=fx c.l i)(aO:Zn s=none) :
  Oq 312 #[O1 c,NY k] w fun e w'=>e=OA (.tuple #[ap9,Om false])/\Oo w w':=by
 have bA:=h;have dy:=((h.alloc SY).drew);have sp:=(((h.alloc SY).alloc SY).drew);have dX:Hid (∀ W:Og,PI c W i d->(Instr.lookup 229 (.map (some c.mS)) (Oj s) true).run prog W=.ok (.tuple #[.agg #[Pm,NY 0,NY 0,NY 0],Om false]) W):=fun W a6=>by
  have:=Xv c s W a6.base.signs;rw[aO] at this;exact this
 have bL:=N8 (∀{G}(h:G:=by
 have z:=N8 (∀{G}(h:G:=by
 have z:=N8 (∀{G}(h:G:=by
 refine wpAnyH_ready (rs:=[5,10]) Pe OW (AllReadyH.cons rfl (fun K D=>?_) (AllReadyH.cons rfl (fun K D=>?_) AllReadyH.nil))
 ·have z:=N8 (∀{G}(h:G:=by
  have z:=N8 (∀{G}(h:G:=by
  have z:=N8 (∀{G}(h:G:=by
  have z:=N8 (∀{G}(h:G:=by
  have⟨gG,iB⟩:=xE (w1.alloc (.cells #[Pm,NY 0,NY 0,NY 0] 275));obtain⟨hr2,aE,⟨cK,b1,bU,ej,w8,w9⟩,⟨jA,kD,s2,pb,tj,tk⟩⟩:=ajN (v0:=Pm) (v1:=NY 0) (v2:=NY 0) (v3:=NY 0) bN sC.out ft iB;exact aFe),G);exact aqd),G);exact atT),G);exact aEM),G);exact aya
 ·have z:=N8 (∀{G}(h:G:=by
  have z:=N8 (∀{G}(h:G:=by
  have z:=N8 (∀{G}(h:G:=by
  refine XL 11 fun K D=>?_;go_simp;clear cS bY cg eo eO rlt;have⟨gG,iB⟩:=xE ((((w1.setCell (N9 (w.heap.size+1) 0) (Pm)).setCell (N9 (w.heap.size+1) 1) (NY 0)).setCell (N9 (w.heap.size+1) 2) (NY 0)).setCell (N9 (w.heap.size+1) 3) (NY 0));obtain⟨hr2,aE,⟨cK,b1,bU,ej,w8,w9⟩,⟨jA,kD,s2,pb,tj,tk⟩⟩:=ajM (v0:=Pm) (v1:=NY 0) (v2:=NY 0) (v3:=NY 0) bN bA.base.size sC.out tT.out ft iB;exact aFe),G);exact atT),G);exact aEM),G);exact ax2),G);exact ax5),G);exact aa2),G);exact aD9
section
variable (c:Ctx) (k:Int) (s:Ou) (x:Sg) (w:Og) (i d:Nat) (h:PI c w i d) (ab:s=fx c.l i) (aO:Zn s=some x)
include c k s x w i d h ab aO
def ajO (E:(x.parts==k)=false) :
  Oq 312 #[O1 c,NY k] w fun e w'=>e=OA (.tuple #[ap9,Om false])/\Oo w w':=by
 have z:=N8 (∀{G}(h:G:=by
 have z:=N8 (∀{G}(h:G:=by
 have z:=N8 (∀{G}(h:G:=by
 refine wpAnyH_ready (rs:=[5,10]) Pe OW (AllReadyH.cons rfl (fun K D=>?_) (AllReadyH.cons rfl (fun K D=>?_) AllReadyH.nil))
 ·have z:=N8 (∀{G}(h:G:=by
  have z:=N8 (∀{G}(h:G:=by
  have z:=N8 (∀{G}(h:G:=by
  have⟨gG,iB⟩:=xE (w1.alloc (.cells #[Oj x.tx,NY x.kd,NY x.parts,NY x.str] 275));obtain⟨hr2,aE,⟨cK,b1,bU,ej,w8,w9⟩,⟨jA,kD,s2,pb,tj,tk⟩⟩:=ajN (v0:=Oj x.tx) (v1:=NY x.kd) (v2:=NY x.parts) (v3:=NY x.str) bN sC.out ft iB;exact aFf),G);exact aqd),G);exact atK),G);exact aya
 ·have z:=N8 (∀{G}(h:G:=by
  have z:=N8 (∀{G}(h:G:=by
  have z:=N8 (∀{G}(h:G:=by
  obtain⟨hr2,aE,⟨cK,b1,bU,ej,w8,w9⟩,⟨jA,kD,s2,pb,tj,tk⟩⟩:=ajM (v0:=Oj x.tx) (v1:=NY x.kd) (v2:=NY x.parts) (v3:=NY x.str) bN bA.base.size sC.out tT.out ft iB;exact aFf),G);exact aEy),G);exact atK),G);exact ax2),G);exact ax5),G);exact aa2),G);exact aEq
def am3 (E:(x.parts==k)=true) :
  Oq 312 #[O1 c,NY k] w fun e w'=>e=OA (.tuple #[sgV x,Om true])/\Oo w w':=by
 have z:=N8 (∀{G}(h:G:=by
 have z:=N8 (∀{G}(h:G:=by
 have z:=N8 (∀{G}(h:G:=by
 refine wpAnyH_ready (rs:=[5,10]) Pe OW (AllReadyH.cons rfl (fun K D=>?_) (AllReadyH.cons rfl (fun K D=>?_) AllReadyH.nil))
 ·have z:=N8 (∀{G}(h:G:=by
  have z:=N8 (∀{G}(h:G:=by
  have z:=N8 (∀{G}(h:G:=by
  have⟨gG,iB⟩:=xE (w1.alloc (.cells #[Oj x.tx,NY x.kd,NY x.parts,NY x.str] 275));obtain⟨hr2,aE,⟨cK,b1,bU,ej,w8,w9⟩,⟨jA,kD,s2,pb,tj,tk⟩⟩:=ajN (v0:=Oj x.tx) (v1:=NY x.kd) (v2:=NY x.parts) (v3:=NY x.str) bN sC.out ft iB;exact aDN),G);exact aqd),G);exact atK),G);exact aya
 ·have z:=N8 (∀{G}(h:G:=by
  have z:=N8 (∀{G}(h:G:=by
  have z:=N8 (∀{G}(h:G:=by
  obtain⟨hr2,aE,⟨cK,b1,bU,ej,w8,w9⟩,⟨jA,kD,s2,pb,tj,tk⟩⟩:=ajM (v0:=Oj x.tx) (v1:=NY x.kd) (v2:=NY x.parts) (v3:=NY x.str) bN bA.base.size sC.out tT.out ft iB;exact aDN),G);exact aEy),G);exact atK),G);exact ax2),G);exact ax5),G);exact aa2),G);exact aEq
end
def V6 (c:Ctx)(k:Int)(w:Og)(i d:Nat)(h:PI c w i d) :
  Oq 312 #[O1 c,NY k] w fun e w'=>e=OA (.tuple #[atJ (ZQ k (fx c.l i)),Om (ZQ k (fx c.l i)).isSome])/\Oo w w':=by
 cases aO:Zn (fx c.l i) with
 | none=>
  have:ZQ k (fx c.l i)=none:=by simp[ZQ,aO]
  rw[this];exact am2 c k _ w i d h rfl aO
 | some x=>
  cases E:x.parts==k with
  | false=>
   have:ZQ k (fx c.l i)=none:=by simp[ZQ,aO,Option.filter,E]
   rw[this];exact ajO c k _ x w i d h rfl aO E
  | true=>
   have:ZQ k (fx c.l i)=some x:=by simp[ZQ,aO,Option.filter,E]
   rw[this];exact am3 c k _ x w i d h rfl aO E
structure FC (c:Ctx)(F:Sv):Prop where
 st:Does c 160 NV F.st
 vl:Does c 224 NV F.vl
 pr:∀ b:Int,2<=b->b<=8->∀ w d i r,F.pr b d i=r->r≠.out->PI c w i d->Oq 280 #[O1 c,NY b] w (P9 c w d (NV w.heap.size) r)
 sg:Does c 311 NV F.sg
def aFH:VH 160:=fun _ _=>by kernel_rfl
def aFI:VH 224:=fun _ _=>by kernel_rfl
def aFJ:VH 311:=fun _ _=>by kernel_rfl
section
variable {c:Ctx} {F:Sv} (ah:FC c F) (w:Og) (d i:Nat) (h:PI c w i d)
include c F ah w d i h
def Vx (aO:Pn c.l F.vl d i≠.out):Oq 159 #[O1 c,U5 c.R 224] w (P9 c w d (NV w.heap.size) (Pn c.l F.vl d i)):=
 Zd c 224 F.vl ah.vl aFI w d i _ rfl aO h
def aaG (aO:Pn c.l F.st d i≠.out):Oq 159 #[O1 c,U5 c.R 160] w (P9 c w d (NV w.heap.size) (Pn c.l F.st d i)):=
 Zd c 160 F.st ah.st aFH w d i _ rfl aO h
def aER (aO:Pn c.l F.sg d i≠.out):Oq 159 #[O1 c,U5 c.R 311] w (P9 c w d (NV w.heap.size) (Pn c.l F.sg d i)):=
 Zd c 311 F.sg ah.sg aFJ w d i _ rfl aO h
end
def bind_ok {α β:Type}(x:α)(i:Nat)(f:α->Nat->PR β):(PR.ok x i).bind f=f x i:=rfl
def O9 {α β:Type}(er:Int)(p:Nat)(f:α->Nat->PR β):(PR.bad er p:PR α).bind f=.bad er p:=rfl
def acv {α β:Type}(f:α->Nat->PR β):(PR.out:PR α).bind f=.out:=rfl
abbrev From (B:Nat):Nat->Prop:=fun b=>B<=b
def RX {c:Ctx}{B:Nat}{w w':Og}{t:Tr}{p:Nat}(h:PO (From B) w t p)(ay:Ap c.R w.heap.size w w')(a1:c.R<B):PO (From B) w' t p:=
 PO.later (U3.XA ay a1 fun _ h=>h) _ _ h
def Sr {B B':Nat}{w:Og}{t:Tr}{p:Nat}(h:PO (From B) w t p)(a1:B'<=B):PO (From B') w t p:=PO.mono (fun _ h _=>Nat.le_trans a1 h) _ _ h
def aas {c:Ctx}{B:Nat}{w w':Og}{t u:Tr}{p q:Nat}(h:PO (From B) w t p)(ay:Ap c.R w.heap.size w w')(dj:c.R<B)(a1:B<=w.heap.size)(U:PO (From w.heap.size) w' u q):Oz (From B) w' [t,u] [p,q]:=
 Oz.pair (M:=w.heap.size) (PO.later (I:=fun b=>From B b/\b<w.heap.size) (U3.XA ay dj fun _ h=>h.1) _ _ (PO.mono (fun _ A hl=>⟨A,hl⟩) _ _ h)) (PO.mono (fun _ A _=>⟨Nat.le_trans a1 A,A⟩) _ _ U)
section
variable {c:Ctx} {w W:Og} {j d:Nat} {ap:List Tr}
include c w W j d ap
def made {ps:List Nat}(dj:PI c W j d)(be:Ap c.R w.heap.size w W)(ax:Oz (From w.heap.size) W ap ps)(hl:ps.length<=maxLen)(cs:Array Ot)(ai:cs.toList=ps.map N7)(n:Nat)(hlen:ps.length=n)(kd:Int)(tx:Ou)(q:Nat)(ag:q=W.heap.size+1) :
  EV w.heap.size ((W.alloc (.cells cs 22)).alloc (O7 kd tx 0 (.slice (some (N9 W.heap.size 0)) n n))) (.mk kd tx 0 ap) (N7 q) /\
  PI c ((W.alloc (.cells cs 22)).alloc (O7 kd tx 0 (.slice (some (N9 W.heap.size 0)) n n))) j d /\
  Ap c.R w.heap.size w ((W.alloc (.cells cs 22)).alloc (O7 kd tx 0 (.slice (some (N9 W.heap.size 0)) n n))):=by
 subst hlen;have ab:q=(W.alloc (.cells cs 22)).heap.size:=by rw[ag];simp
 rw[ab];exact⟨EV.new (KV.row ax be.size hl cs ai) (by simp;have:=be.size;omega) kd tx 0,(dj.alloc _).alloc _,(be.alloc be.size _).alloc (by simp;have:=be.size;omega) _⟩
def aaF {v:Ot}(dj:PI c W j d)(be:Ap c.R w.heap.size w W)(ax:KV w.heap.size W ap v)(kd:Int)(tx:Ou)(q:Nat)(ag:q=W.heap.size) :
  EV w.heap.size (W.alloc (O7 kd tx 0 v)) (.mk kd tx 0 ap) (N7 q)/\PI c (W.alloc (O7 kd tx 0 v)) j d/\Ap c.R w.heap.size w (W.alloc (O7 kd tx 0 v)):=by
 subst ag;exact⟨EV.new ax be.size kd tx 0,dj.alloc _,be.alloc be.size _⟩
end
def aay {c:Ctx}{F:Sv}(ah:FC c F):Does c 155 NV (Tj c.l F):=by
 have z:=N8 (∀{G}(h:G:=by
 have bW:=hide h.rlt;unfold Tj at ab;have a':=hide ab;have dp:=hide aO;clear ab aO;go_enter func155,ntmps155
 cases aa:O6 c.l RP i with
 | out=>
  exact Rl
 | bad er p=>
  have aj:=(O5 c RP w i d h Ol);exact aa1
 | ok cy bR=>
  have aj:=(O5 c RP w i d h Ol);have z:=N8 (∀{G}(h:G:=by
  have z:=N8 (∀{G}(h:G:=by
  have bN:=ba;clear h
  cases aa:Pn c.l F.vl d bR with
  | out=>
   exact Rl
  | bad er p=>
   have aj:=(Vx ah w1 d bR bN (by rw[aa];nofun))
   exact ap7
  | ok dO cr=>
   have aj:=(Vx ah w1 d bR bN (by rw[aa];nofun))
   have z:=N8 (∀{G}(h:G:=by
   intro e w2 al;obtain⟨⟨v2,rfl,cp,rfl,jQ⟩,ba,ay⟩:=al;have eg:=(eq.next ay);have bq:=ba;have j1:=(Sr jQ eq.size)
   cases aa:O6 c.l TV cr with
   | out=>
    exact Rl
   | bad er p=>
    have aj:=(O5 c TV w2 cr d bq Ol);exact ap6
   | ok jl h9=>
    have aj:=(O5 c TV w2 cr d bq Ol);have z:=N8 (∀{G}(h:G:=by
    intro e aq al;obtain⟨⟨v3,rfl,rfl⟩,ba,ay⟩:=al;have jn:=(eg.next ay);replace j1:=(RX j1 ay bW.out);go_wp2;go_ret;exact Tz a'.out.symm ⟨cp,rfl,j1⟩ ba jn),G);exact XM),G);exact XM),G);exact aho),G);exact XM),G);exact atX
def info22:(prog.info? 22).map (fun i=>(i.zero,i.size,i.bytes))=some (some QS,1,8):=by kernel_rfl
section
variable {B:Nat} {w:Og} {ap:List Tr} {v:Ot} (h:KV B w ap v)
include B w ap v h
def KV.shape:∃ a cap,v=.slice a ap.length cap:=by
 obtain⟨ps,aa,E⟩:=h;rw[<-Oz.length _ _ E];exact UL aa
def KV.own (g:Nat)(hg:v.ownBlock=some g):g<w.heap.size/\B<=g:=by
 obtain⟨ps,aa,_⟩:=h;exact P6 aa g hg
end
def KV.mono {B B':Nat}{w:Og}{ap:List Tr}{v:Ot}(h:KV B w ap v)(a1:B'<=B):KV B' w ap v:=by
 obtain⟨ps,aa,E⟩:=h;refine⟨ps,⟨aa.1,?_⟩,Oz.mono (fun b h _=>⟨by omega,h.2⟩) _ _ E⟩;exact azk
def ak2 {B:Nat}{w1 aq:Og}{ap fq:List Tr}{v:Ot}{ps dI:List Nat}{g cap n:Nat}{o:Obj}(E:Oz (fun b=>B<=b/\v.ownBlock≠some b) w1 (ap++fq) (ps++dI))
  (hown:aq.ownsRow B 22 1 (.slice (some (N9 g 0)) n cap) n ((ps++dI).map N7)) (ax:n=(ps++dI).length) (dd:(w1.alloc o).grownBy aq v.ownBlock)
  (hg:v.ownBlock=some g\/g=w1.heap.size+1):KV B aq (ap++fq) (.slice (some (N9 g 0)) n cap):=by
 subst ax;refine⟨ps++dI,hown,?_⟩;have ab:U3 (fun b=>B<=b/\b≠g/\v.ownBlock≠some b) w1 aq:=by
  intro b A hl;have h1:Oo w1 (w1.alloc o):=PE;rw[<-h1.block b hl];exact dd.block b QY (fun e=>A.2.2 e.symm)
 have h0:=Oz.mono (J:=fun b=>B<=b/\b≠g/\v.ownBlock≠some b) (fun b A hl=>⟨A.1,fun e=>by (rcases hg with hg|hg);(exact A.2 (by rw[hg,e]));omega,A.2⟩) _ _ E
 exact Oz.mono (fun b A _=>⟨A.1,fun e=>by simp only[Value.ownBlock,Option.some.injEq] at e;exact A.2.1 e.symm⟩) _ _ (Oz.later ab _ _ h0)
def nxt (c:Ctx)(w:Og):Nat:=match w.cell? (N9 c.R 1) with|some (.int _ v)=>v.toNat|_=>0
def UW {c:Ctx}{w:Og}{i d:Nat}(h:PI c w i d):nxt c w=i:=by unfold nxt;rw[h.c1];rfl
def Rq (w:Og)(p H:Nat)(h:w.heap.size=H):∀ j u,[N7 p][j]? = some u->(w.alloc (.cells #[N7 p] 22)).cell? (((N9 H 0):Addr).add j)=some u:=by
 intro j u aS
 match j,aS with
 | 0,aS=>
  simp only[List.getElem?_cons_zero,Option.some.injEq] at aS;subst aS;subst h;rw[show ((N9 w.heap.size 0):Addr).add 0=(N9 w.heap.size 0) from rfl,cell_of (Oi _ _)];rfl
 | j+1,aS=>simp at aS
def one_one (p:Nat):∀ u ∈ [N7 p],u.oneCell'=true:=by
 intro u aQ;simp only[List.mem_singleton] at aQ;subst aQ;rfl
def aau {c:Ctx}{B:Nat}{w w1:Og}{ap:List Tr}{v:Ot}{t:Tr}{p:Nat}(E:KV B w ap v)(a1:B<=w.heap.size)(ay:Ap c.R w.heap.size w w1)(dj:c.R<B)(ax:PO (From w.heap.size) w1 t p) :
  ∃ ps,w1.ownsRow B 22 1 v ps.length (ps.map N7)/\Oz (fun b=>B<=b/\v.ownBlock≠some b) w1 ap ps/\Oz (fun b=>B<=b/\v.ownBlock≠some b) w1 (ap++[t]) (ps++[p]):=by
 have hown:=E.own;obtain⟨ps,aa,ab⟩:=E;have h1:=Oz.later (I:=fun b=>(B<=b/\v.ownBlock≠some b)/\b<w.heap.size) (U3.XA ay dj fun _ h=>h.1.1) _ _ (Oz.mono (fun _ A hl=>⟨A,hl⟩) _ _ ab);refine⟨ps,Q8 (I:=fun b=>B<=b) (U3.XA ay dj fun _ h=>h) (fun g hg=>(P6 aa g hg).2) aa,Oz.mono (fun b A _=>A.1) _ _ h1,Oz.append (M:=w.heap.size) _ _ (Oz.cons ?_ Oz.nil) h1⟩;exact PO.mono (fun b A _=>⟨⟨Nat.le_trans a1 A,fun e=>by have:=(hown b e).1;have:w.heap.size<=b:=A;omega⟩,A⟩) _ _ ax
def QL {c:Ctx}{F:Sv}(ah:FC c F)(hN:∃ k,FNx c.l k F):Does c 149 EV (PV c.l F):=by
 have jx:=Rh c.R 160;intro w d i r ab aO h;have dB:=h.base.ends;have dX:=hide h.base.len;have z:=N8 (∀{G}(h:G:=by
 have eZ:=(Ap.refl c.R w.heap.size w);have bW:=hide h.rlt;have nJ:=hide hN;unfold PV at ab;have a':=hide ab;have dp:=hide aO;clear ab aO hN;go_enter func149,ntmps149
 cases aa:O6 c.l TG i with
 | out=>
  exact Rl
 | bad er p=>
  have aj:=(O5 c TG w i d h Ol);exact aa1
 | ok cy bR=>
  have aj:=(O5 c TG w i d h Ol);have z:=N8 (∀{G}(h:G:=by
  have z:=N8 (∀{G}(h:G:=by
  have bN:=ba;clear ay h;go_wp2_with fail
  go_loopw [3] (fun v wr=>∃ k aX j,(P8 c.l F d k aX j).bind (fun ap i2=>PR.ok (.mk 6 Oh 0 ap) i2)=r/\PI c wr j d/\Ap c.R w.heap.size w wr/\KV w.heap.size wr aX v/\aX.length<=j) (fun _ wr=>c.l.length - nxt c wr)
  case atStart=>exact⟨F.fuel,[],bR,a'.out,bN,eq,KV.nil _ _,Nat.zero_le _⟩
  case round=>
   obtain⟨k,aX,j,ag,ba,gx,n0,gh⟩:=hrel
   cases k with
   | zero=>exact absurd ag.symm dp.out
   | succ k=>
    have dA:=NZ dX;have ni:=ba.lt;have bq:=ba;have oA:=ba;have qb:=hide gh
    by_cases ac:fx c.l j=Wi
    ·have bj:Hid (PR.ok (.mk 6 Oh 0 aX) (j+1)=r):=by
      unfold P8 at ag;rw[if_pos ac,bind_ok] at ag;exact ag
     have aj:=(RU c Wi wr j d ba ac Ol);obtain⟨va,du,rfl⟩:=n0.shape;clear ag gh ac;go_wp2_with fail;refine cm aj ?_;rintro e aq ⟨rfl,iH,ha3⟩;have jn:=(gx.next ha3);have dg:=iH;have jF:=(KV.later n0 ha3 bW.out);have aj:=(PG 6 Oh (.slice va aX.length du) aq ⟨_,_,_,rfl⟩);have z:=N8 (∀{G}(h:G:=by
     have⟨cO,cP,db⟩:=aaF dg jn jF 6 Oh _ rfl;exact Tz bj.out.symm cO cP db),G);exact aat
    ·have bj:Hid ((Pn c.l F.st d j).bind (fun t a8=>(P8 c.l F d k (aX++[t]) a8).bind fun ap i2=>PR.ok (.mk 6 Oh 0 ap) i2)=r):=by
      unfold P8 at ag;rw[if_neg ac] at ag;rw[<-ag]
      cases Pn c.l F.st d j <;> rfl
     have aj:=(TA c Wi wr j d ba ac);clear ag gh ac
     cases aa:Pn c.l F.st d j with
     | out=>
      exact axX
     | bad er p=>
      have bV:=hide aa;rw[aa] at bj;simp only[O9] at bj;clear aa;have z:=N8 (∀{G}(h:G:=by
      have aj:=(aaG ah aq d j dg (by rw[bV.out];nofun))
      exact aD0),G);exact aqe
     | ok t cr=>
      have bV:=hide aa;rw[aa] at bj;simp only[bind_ok] at bj;clear aa;have z:=N8 (∀{G}(h:G:=by
      have jF:=(KV.later n0 (Ap.of bn) bW.out);have aj:=(aaG ah aq d j dg (by rw[bV.out];nofun))
      have z:=N8 (∀{G}(h:G:=by
      have kr:j<cr:=by
       have⟨j9,cL⟩:=NZ nJ;exact((QW (l:=c.l) (d:=d) (cL.st (d+1) j ni)).2 t cr bV.out).1
      have z:=N8 (∀{G}(h:G:=by
      go_roundw
      case rel=>exact⟨k,aX++[t],cr,bj.out,gr,mQ,mf,by simp;omega⟩
      case measure=>rw[UW gr,UW oA];omega),G);exact aEm),G);exact aEz),G);exact aqe),G);exact aho),G);exact XM),G);exact amN
def Asks (c:Ctx)(f:Nat)(b:Nat->Bool):Prop:=
 ∀ w d i,PI c w i d->Oq f #[O1 c] w fun e w'=>e=OA (Om (b i))/\Oo w w'
def LV (B:Nat)(w:Og)(ap:List Tr)(v:Ot):Prop:=KV B w ap v/\(ap=[]->v=.slice none 0 0)/\ap.length<=3001
def Yk {c:Ctx}(t7 zX:Nat)(begins:Nat->Bool)(nx:Nat->Nat->PR Tr)(opn shut:Ou)(A:Asks c t7 begins)(al:Does c zX NV nx)
  (Lr:VH t7) (Ls:VH zX)
  (gL:opn≠Oh) (fo:shut≠Oh) (ut:∀ d i t j,i<c.l.length->nx d i=.ok t j->i<j)
  (k:Nat) (w:Og) (d i:Nat) (r:PR (List Tr)) (ab:Vm c.l opn shut begins (nx d) k i=r) (aO:r≠.out) (h:PI c w i d) :
  Oq 227 #[O1 c,Oj opn,Oj shut,U5 c.R t7,U5 c.R zX] w (P9 c w d (LV w.heap.size) r):=by
 have dX:=hide h.base.len;have z:=N8 (∀{G}(h:G:=by
 have eZ:=(Ap.refl c.R w.heap.size w);have bW:=hide h.rlt;have HP:=al;have m1:=hide gL;have fK:=hide fo;have y8:=hide ut;unfold Vm at ab;have a':=hide ab;have dp:=hide aO;clear ab aO gL fo ut;unfold U5;go_enter func227,ntmps227
 cases aa:O6 c.l opn i with
 | out=>
  exact Rl
 | bad er p=>
  have aj:=hide (O5 c opn w i d h m1.out);rw[aa] at aj a';simp only[O9] at a';clear aa;go_wp2_with fail;refine cm aj.out ?_;exact axN
 | ok cy bR=>
  have aj:=hide (O5 c opn w i d h m1.out);rw[aa] at aj a';simp only[bind_ok] at a';clear aa;go_wp2_with fail;refine cm aj.out ?_;have z:=N8 (∀{G}(h:G:=by
  have bN:=ba;clear ay h
  by_cases ac:fx c.l bR=shut
  ·have aj:=hide (RU c shut w1 bR d bN ac fK.out);rw[if_pos ac] at a';clear ac;go_wp2_with fail;refine cm aj.out ?_;rintro e w2 ⟨rfl,hr2,ha2⟩;have eg:=(eq.next ha2);have bq:=hr2;go_wp2;go_ret;exact Tz a'.out.symm ⟨KV.nil _ _,fun _=>rfl,by simp⟩ bq eg
  ·have aj:=hide (TA c shut w1 bR d bN ac);rw[if_neg ac] at a';clear ac;go_wp2_with fail;refine cm aj.out ?_;rintro e w2 ⟨rfl,aE⟩;have eg:=(eq.next (Ap.of aE));have bq:=(bN.later aE);go_wp2_with fail
   go_loopw [11] (fun v wr=>∃ k aX j,Rx c.l shut begins (nx d) k aX j=r/\PI c wr j d/\Ap c.R w.heap.size w wr/\KV w.heap.size wr aX v/\aX.length<=j) (fun _ wr=>c.l.length - nxt c wr)
   case atStart=>exact⟨k,[],bR,a'.out,bq,eg,KV.nil _ _,Nat.zero_le _⟩
   case round=>
    obtain⟨k,aX,j,ag,ba,gx,n0,gh⟩:=hrel
    cases k with
    | zero=>exact absurd ag.symm dp.out
    | succ k=>
     have dA:=NZ dX;have ni:=ba.lt;have bq:=ba;have oA:=ba;have eg:=gx;have qb:=hide gh;unfold Rx at ag;have bj:=hide ag;clear ag gh;obtain⟨va,du,rfl⟩:=n0.shape
     by_cases hb:aX.length=8
     ·
      cases hbg:begins j with
      | true=>
       rw[if_pos ⟨hb,hbg⟩] at bj;have z:=N8 (∀{G}(h:G:=by
       have aj:=hide (Vb c 4 aq j d (bq.later bn));go_wp2_with fail;refine cm aj.out ?_;rintro e bD ⟨rfl,dc⟩;exact⟨rfl,Qc bj.out.symm (jn.next (Ap.of dc))⟩),G);exact aED
      | false=>
       rw[if_neg (by rw[hbg];rintro⟨_,hh⟩;cases hh)] at bj
       have z:=N8 (∀{G}(h:G:=by
       have dg:=(bq.later bn);have jF:=(KV.later n0 (Ap.of bn) bW.out);clear Dh;have z:=N8 (∀{G}(h:G:=by
       cases aa:nx d j with
       | out=>
        exact axK
       | bad er p=>
        have aj:Hid _:=HP aq d j _ rfl (by rw[aa];nofun) dg
        have z:=N8 (∀{G}(h:G:=by
        exact⟨rfl,Qc ld.out.symm (jn.next ay)⟩),G);exact axL
       | ok t cr=>
        have aj:Hid _:=HP aq d j _ rfl (by rw[aa];nofun) dg
        have z:=N8 (∀{G}(h:G:=by
        have tn:=(jn.next ay);have gE:=ba;have tG:=hide (aau jF jn.size ay bW.out rD);have kL:=(KV.later jF ay bW.out);exact aDp),G);exact aEJ),G);exact aEL),G);exact aED
     ·rw[if_neg (fun hh=>hb hh.1)] at bj;have Dh:((aX.length:Int)==8)=false:=beq_eq_false_iff_ne.2 Oe;clear hb;have z:=N8 (∀{G}(h:G:=by
      cases aa:nx d j with
      | out=>
       exact axK
      | bad er p=>
       have aj:Hid _:=HP wr d j _ rfl (by rw[aa];nofun) bq
       have z:=N8 (∀{G}(h:G:=by
       exact⟨rfl,Qc ld.out.symm (eg.next ay)⟩),G);exact axL
      | ok t cr=>
       have aj:Hid _:=HP wr d j _ rfl (by rw[aa];nofun) bq
       have z:=N8 (∀{G}(h:G:=by
       have tn:=(eg.next ay);have gE:=ba;have tG:=hide (aau n0 eg.size ay bW.out rD);have kL:=(KV.later n0 ay bW.out);exact aDp),G);exact aEJ),G);exact aEL),G);exact aho),G);exact amN
def FOk (F:Sv):Prop:=∀ d i t j,F.st d i=.ok t j->t.kd=15->∃ v r,t.kids=v::r
def ahw {l:List Tk}{f:Nat->Nat->PR Tr}{d i j:Nat}{t:Tr}(h:Pn l f d i=.ok t j):f (d+1) i=.ok t j:=by
 unfold Pn at h
 split at h
 ·
  cases h
 ·exact h
section
variable {l:List Tk} {F:Sv} (ah:FOk F)
include l F ah
def adh {d:Nat}:∀ n aX i ap j,(∀ t ∈ aX,t.kd=15->∃ v r,t.kids=v::r)->P8 l F d n aX i=.ok ap j->∀ t ∈ ap,t.kd=15->∃ v r,t.kids=v::r:=by
 intro n
 induction n with
 | zero=>intro aX i ap j _ h;cases h
 | succ n bv=>
  intro aX i ap j hacc h;unfold P8 at h
  split at h
  ·
   cases h;exact hacc
  ·
   cases aa:Pn l F.st d i with
   | out=>rw[aa] at h;cases h
   | bad er p=>rw[aa] at h;cases h
   | ok t bR=>
    rw[aa,bind_ok] at h;refine bv _ _ _ _ (fun u aQ=>?_) h
    rcases List.mem_append.1 aQ with aQ|aQ
    ·exact hacc u aQ
    ·rw[List.mem_singleton] at aQ;subst aQ;exact ah _ _ _ _ (ahw aa)
def WE {d i j:Nat}{t:Tr}(h:PV l F d i=.ok t j):aqC t:=by
 unfold PV at h
 cases aR:O6 l TG i with
 | out=>rw[aR] at h;cases h
 | bad er p=>rw[aR] at h;cases h
 | ok x bR=>
  rw[aR,bind_ok] at h
  cases A:P8 l F d F.fuel [] bR with
  | out=>rw[A] at h;cases h
  | bad er p=>rw[A] at h;cases h
  | ok ap cr=>
   rw[A,bind_ok] at h;cases h;intro bP r E jd;have D6:ap=bP::r:=E;exact adh ah _ _ _ _ _ (fun _ aQ=>absurd aQ OW) A bP (by rw[D6];simp) jd
end
def alb:VH 228:=fun _ _=>by kernel_rfl
def au8:VH 281:=fun _ _=>by kernel_rfl
def au9:VH 229:=fun _ _=>by kernel_rfl
def ZN (c:Ctx):Asks c 228 (isName c.l):=fun w d i h=>Zb c w i d h
section
variable {c:Ctx}
include c
def atY {F:Sv}(ah:FC c F):Does c 349 NV (acZ c.l F):=by
 have z:=N8 (∀{G}(h:G:=by
 unfold acZ at ab;have a':=hide ab;have dp:=hide aO;clear ab aO;go_enter func349,ntmps349
 cases aa:Pn c.l F.vl d i with
 | out=>
  rw[aa] at a';exact absurd a'.out.symm dp.out
 | bad er p=>
  have aj:=(Vx ah w d i h (by rw[aa];nofun))
  rw[aa] at aj a';clear aa;go_wp2_with fail;refine cm aj ?_;exact axN
 | ok cy bR=>
  have aj:=(Vx ah w d i h (by rw[aa];nofun))
  rw[aa] at aj a';clear aa;go_wp2_with fail;have z:=N8 (∀{G}(h:G:=by
  have eq:=(eZ.next ay);have ec:=(Sr f9 eZ.size);clear h;go_wp2;go_ret;exact Tz a'.out.symm ⟨p1,rfl,ec⟩ ba eq),G);exact atN),G);exact atX
def ad2:Does c 281 NV (fun _=>TQ c.l):=by
 intro w d i r ab aO h;have eZ:=(Ap.refl c.R w.heap.size w)
 dsimp only at ab
 unfold TQ at ab;have a':=hide ab;have dp:=hide aO;clear ab aO;go_enter func281,ntmps281
 cases aa:nameP c.l i with
 | out=>
  exact Rl
 | bad er p=>
  have aj:=(name_any c w i d h);exact aa1
 | ok cy bR=>
  have aj:=(name_any c w i d h);have z:=N8 (∀{G}(h:G:=by
  have z:=N8 (∀{G}(h:G:=by
  clear h;have aj:=(PG 23 cy Qv w1 ⟨_,_,_,rfl⟩);have z:=N8 (∀{G}(h:G:=by
  have⟨cO,cP,db⟩:=aaF ba eq (KV.nil _ _) 23 cy _ rfl;exact Tz a'.out.symm cO.nv cP db),G);exact aat),G);exact aho),G);exact XM
def ahD {F:Sv}(ah:FC c F):Does c 229 NV (VI c.l F):=by
 have z:=N8 (∀{G}(h:G:=by
 unfold VI at ab;have a':=hide ab;have dp:=hide aO;clear ab aO;go_enter func229,ntmps229
 cases aa:nameP c.l i with
 | out=>
  exact Rl
 | bad er p=>
  have aj:=(name_any c w i d h);exact aa1
 | ok cy bR=>
  have aj:=(name_any c w i d h);have z:=N8 (∀{G}(h:G:=by
  have z:=N8 (∀{G}(h:G:=by
  have bN:=ba;clear h
  cases aa:O6 c.l aee bR with
  | out=>
   exact Rl
  | bad er p=>
   have aj:=(O5 c aee w1 bR d bN Ol);exact ap7
  | ok dO cr=>
   have aj:=(O5 c aee w1 bR d bN Ol);have z:=N8 (∀{G}(h:G:=by
   intro e w2 al;obtain⟨⟨v2,rfl,rfl⟩,ba,ay⟩:=al;have eg:=(eq.next ay);have bq:=ba
   cases aa:Pn c.l F.vl d cr with
   | out=>
    exact Rl
   | bad er p=>
    have aj:=(Vx ah w2 d cr bq (by rw[aa];nofun))
    exact ap6
   | ok jl h9=>
    have aj:=(Vx ah w2 d cr bq (by rw[aa];nofun))
    have z:=N8 (∀{G}(h:G:=by
    intro e aq al;obtain⟨⟨v3,rfl,cJ,rfl,mE⟩,ba,ay⟩:=al;have jn:=(eg.next ay);have tF:=(Sr mE eg.size);have aj:=(PG 39 cy (.slice (some (N9 aq.heap.size 0)) 1 1) (aq.alloc (.cells #[N7 cJ] 22)) ⟨_,_,_,rfl⟩);have z:=N8 (∀{G}(h:G:=by
    have⟨cO,cP,db⟩:=made ba jn (Oz.cons tF Oz.nil) (by simp[maxLen]) #[N7 cJ] rfl 1 rfl 39 cy (aq.heap.size+1) rfl;exact Tz a'.out.symm cO.nv cP db),G);exact aat),G);exact XM),G);exact XM),G);exact aho),G);exact XM),G);exact atX
def ad3 (aL:Ends c.l)(d i:Nat)(t:Tr)(j:Nat)(az:i<c.l.length)(h:(fun(_:Nat)=>TQ c.l) d i=.ok t j):i<j:=((adz (q:=True) aL az).2 t j h).1
def ahE {F:Sv}{k:Nat}(hN:FNx c.l k F)(aL:Ends c.l)(d i:Nat)(t:Tr)(j:Nat)(az:i<c.l.length)(h:VI c.l F d i=.ok t j):i<j:=((agb (q:=False) aL hN az (fun h=>h.elim)).2 t j h).1
def atZ {F:Sv}{k:Nat}(hN:FNx c.l k F)(d i:Nat)(t:Tr)(j:Nat)(az:i<c.l.length)(h:acZ c.l F d i=.ok t j):i<j:=((aem (q:=False) hN az (fun h=>h.elim)).2 t j h).1
def ajE {F:Sv}:Does c 226 NV (fun _=>Ry c.l F):=by
 have jx:=Rh c.R 228;have Eb:=Rh c.R 281;intro w d i r ab aO h;have dB:=h.base.ends;have eZ:=(Ap.refl c.R w.heap.size w)
 dsimp only at ab
 unfold Ry at ab;have a':=hide ab;have dp:=hide aO;clear ab aO;go_enter func226,ntmps226
 cases aa:Vm c.l RP TV (isName c.l) (TQ c.l) F.fuel i with
 | out=>
  exact Rl
 | bad er p=>
  have aj:=(Yk 228 281 (isName c.l) (fun _=>TQ c.l) RP TV (ZN c) ad2 alb au8 Ol Ol (ad3 dB) F.fuel w d i _ rfl (by rw[aa];nofun) h)
  exact aa1
 | ok cy bR=>
  have aj:=(Yk 228 281 (isName c.l) (fun _=>TQ c.l) RP TV (ZN c) ad2 alb au8 Ol Ol (ad3 dB) F.fuel w d i _ rfl (by rw[aa];nofun) h)
  have z:=N8 (∀{G}(h:G:=by
  have z:=N8 (∀{G}(h:G:=by
  have aj:=(PG 40 Oh (.slice va cy.length du) w1 ⟨_,_,_,rfl⟩);have z:=N8 (∀{G}(h:G:=by
  have⟨cO,cP,db⟩:=aaF ba eq ec 40 Oh _ rfl;exact Tz a'.out.symm cO.nv cP db),G);exact aat),G);exact aE2),G);exact XM
def ajF {F:Sv}(ah:FC c F)(hN:∃ k,FNx c.l k F):Does c 156 NV (Uh c.l F):=by
 have jx:=Rh c.R 228;have Eb:=Rh c.R 229;obtain⟨k,hN⟩:=hN;intro w d i r ab aO h;have dB:=h.base.ends;have eZ:=(Ap.refl c.R w.heap.size w);unfold Uh at ab;have a':=hide ab;have dp:=hide aO;clear ab aO;go_enter func156,ntmps156
 cases aa:Vm c.l TG Wi (isName c.l) (VI c.l F d) F.fuel i with
 | out=>
  exact Rl
 | bad er p=>
  have aj:=(Yk 228 229 (isName c.l) (VI c.l F) TG Wi (ZN c) (ahD ah) alb au9 Ol Ol (ahE hN dB) F.fuel w d i _ rfl (by rw[aa];nofun) h)
  exact aa1
 | ok cy bR=>
  have aj:=(Yk 228 229 (isName c.l) (VI c.l F) TG Wi (ZN c) (ahD ah) alb au9 Ol Ol (ahE hN dB) F.fuel w d i _ rfl (by rw[aa];nofun) h)
  have z:=N8 (∀{G}(h:G:=by
  have z:=N8 (∀{G}(h:G:=by
  have aj:=(PG 38 Oh (.slice va cy.length du) w1 ⟨_,_,_,rfl⟩);have z:=N8 (∀{G}(h:G:=by
  have⟨cO,cP,db⟩:=aaF ba eq ec 38 Oh _ rfl;exact Tz a'.out.symm cO.nv cP db),G);exact aat),G);exact aE2),G);exact XM
def empty_any:Does c 150 NV (fun _ i=>(O6 c.l PY i).bind fun _ a8=>.ok (.mk 16 Oh 0 []) a8):=by
 intro w d i r ab aO h;have eZ:=(Ap.refl c.R w.heap.size w)
 dsimp only at ab
 have a':=hide ab;have dp:=hide aO;clear ab aO;go_enter func150,ntmps150
 cases aa:O6 c.l PY i with
 | out=>
  exact Rl
 | bad er p=>
  have aj:=(O5 c PY w i d h Ol);exact aa1
 | ok cy bR=>
  have aj:=(O5 c PY w i d h Ol);have z:=N8 (∀{G}(h:G:=by
  have z:=N8 (∀{G}(h:G:=by
  clear h;have aj:=(PG 16 Oh Qv w1 ⟨_,_,_,rfl⟩);have z:=N8 (∀{G}(h:G:=by
  have⟨cO,cP,db⟩:=aaF ba eq (KV.nil _ _) 16 Oh _ rfl;exact Tz a'.out.symm cO.nv cP db),G);exact aat),G);exact aho),G);exact XM
end
structure Open (B:Nat)(w:Og)(t:Tr)(p:Nat)(u:Ot)(ps:List Nat):Prop where
 low:B<=p
 blk:w.heap[p]? = some (O7 t.kd t.tx t.n u)
 row:w.ownsRow B 22 1 u ps.length (ps.map N7)
 own:u.ownBlock≠some p
 kids:Oz (fun b=>B<=b/\b≠p/\u.ownBlock≠some b) w t.kids ps
def EV.opens {B:Nat}{w:Og}{t:Tr}{v:Ot}(h:EV B w t v):∃ p u ps,v=N7 p/\Open B w t p u ps:=by
 obtain⟨p,u,ps,rfl,h1,U,av,aN,bx⟩:=h;exact⟨p,u,ps,rfl,h1,U,av,aN,bx⟩
def Open.ev {B:Nat}{w:Og}{t:Tr}{p:Nat}{u:Ot}{ps:List Nat}(h:Open B w t p u ps):EV B w t (N7 p):=⟨p,u,ps,rfl,h.low,h.blk,h.row,h.own,h.kids⟩
def Open.later {c:Ctx}{B:Nat}{w w':Og}{t:Tr}{p:Nat}{u:Ot}{ps:List Nat}(h:Open B w t p u ps)(ay:Ap c.R w.heap.size w w')(a1:c.R<B):Open B w' t p u ps:=
 ⟨h.low,by rw[ay.block p (lt_of_heap h.blk) (by have:=h.low;omega)];exact h.blk,Q8 (I:=fun b=>B<=b) (U3.XA ay a1 fun _ h=>h) (fun g hg=>(P6 h.row g hg).2) h.row,h.own,Oz.later (U3.XA ay a1 fun _ h=>h.1) _ _ h.kids⟩
section
variable {B:Nat} {w:Og} {t:Tr} {p:Nat} {u:Ot} {ps:List Nat} (h:Open B w t p u ps)
include B w t p u ps h
def Open.cell:w.cell? (N9 p 3)=some u/\(∀ o,w.frozen? (N9 p o)=false)/\p<w.heap.size:=
 ⟨(node_cells h.blk).2.2.2.1,(node_cells h.blk).2.2.2.2,lt_of_heap h.blk⟩
def Open.shape:∃ a cap,u=.slice a t.kids.length cap:=by
 rw[<-Oz.length _ _ h.kids];exact UL h.row
end
def Open.apart {c:Ctx}{B:Nat}{w w1:Og}{t:Tr}{p:Nat}{u:Ot}{ps:List Nat}(h:Open B w t p u ps)(a1:B<=w.heap.size)(ay:Ap c.R w.heap.size w w1)(dj:c.R<B){fq:List Tr}{dI:List Nat}(ax:Oz (From w.heap.size) w1 fq dI) :
  Oz (fun b=>B<=b/\b≠p/\u.ownBlock≠some b) w1 (t.kids++fq) (ps++dI):=
 Oz.append (M:=w.heap.size) _ _ (Oz.mono (fun b A _=>by
  have h1:w.heap.size<=b:=A;have U:=lt_of_heap h.blk;exact⟨⟨by omega,by omega,fun e=>by have:=(P6 h.row b e).1;omega⟩,h1⟩) _ _ ax)
  (Oz.later (I:=fun b=>(B<=b/\b≠p/\u.ownBlock≠some b)/\b<w.heap.size) (U3.XA ay dj fun _ h=>h.1.1) _ _ (Oz.mono (fun _ A hl=>⟨A,hl⟩) _ _ h.kids))
def ald {B:Nat}{w0 aq:Og}{kd n:Int}{tx:Ou}{ap fq:List Tr}{ps dI:List Nat}{p g m cap:Nat}{u:Ot}(a1:B<=p)(A:w0.heap[p]? = some (O7 kd tx n u))(aQ:u.ownBlock≠some p)
  (E:Oz (fun b=>B<=b/\b≠p/\u.ownBlock≠some b) w0 (ap++fq) (ps++dI))
  (hown:aq.ownsRow B 22 1 (.slice (some (N9 g 0)) m cap) m ((ps++dI).map N7)) (aR:m=(ps++dI).length) (dd:w0.grownBy aq u.ownBlock) (hg:u.ownBlock=some g\/g=w0.heap.size) :
  EV B (aq.setCell (N9 p 3) (.slice (some (N9 g 0)) m cap)) (.mk kd tx n (ap++fq)) (N7 p):=by
 subst aR;have aM:=lt_of_heap A;have D2:g≠p:=by
  rcases hg with hg|hg
  ·exact fun e=>aQ (by rw[hg,e])
  ·omega
 have av:aq.heap[p]? = some (O7 kd tx n u):=by rw[dd.block p aM (fun e=>aQ e.symm)];exact A
 have hset:∀ b,b≠p->(aq.setCell (N9 p 3) (.slice (some (N9 g 0)) (ps++dI).length cap)).heap[b]? = aq.heap[b]?:=fun b A=>Below.heap_setCell aq (N9 p 3) _ b A;refine⟨p,.slice (some (N9 g 0)) (ps++dI).length cap,ps++dI,rfl,a1,by rw[heap_set av];rfl,?_,fun e=>D2 (by simpa[Value.ownBlock] using e),?_⟩
 ·exact Q8 (I:=fun b=>b=g) (fun b A _=>hset b (by rw[A];exact D2)) (fun g1 iD=>by simpa[Value.ownBlock] using iD.symm) hown
 ·have h0:=Oz.mono (J:=fun b=>B<=b/\b≠p/\b≠g/\u.ownBlock≠some b) (fun b A hl=>⟨A.1,A.2.1,fun e=>by (rcases hg with hg|hg);(exact A.2.2 (by rw[hg,e]));omega,A.2.2⟩) _ _ E
  have ab:U3 (fun b=>B<=b/\b≠p/\b≠g/\u.ownBlock≠some b) w0 (aq.setCell (N9 p 3) (.slice (some (N9 g 0)) (ps++dI).length cap)):=by
   intro b A hl;rw[hset b A.2.1];exact dd.block b hl (fun e=>A.2.2.2 e.symm)
  exact Oz.mono (fun b A _=>⟨A.1,A.2.1,fun e=>by simp only[Value.ownBlock,Option.some.injEq] at e;exact A.2.2.1 e.symm⟩) _ _ (Oz.later ab _ _ h0)
def YQ {c:Ctx}{w w1 aq:Og}{j d:Nat}{t x:Tr}{p q g cap:Nat}{u:Ot}{ps:List Nat}(ew:Open w.heap.size w1 t p u ps)(ac:Oz (fun b=>w.heap.size<=b/\b≠p/\u.ownBlock≠some b) w1 (t.kids++[x]) (ps++[q]))(dj:PI c w1 j d)(be:Ap c.R w.heap.size w w1)(n1:c.lo<=w.heap.size)
  (hown:aq.ownsRow w.heap.size 22 1 (.slice (some (N9 g 0)) (t.kids.length+1) cap) (t.kids.length+1) (ps.map N7++[N7 q])) (dd:(w1.alloc (.cells #[N7 q] 22)).grownBy aq u.ownBlock) (hg:u.ownBlock=some g\/g=w1.heap.size+1) :
  EV w.heap.size (aq.setCell (N9 p 3) (.slice (some (N9 g 0)) (t.kids.length+1) cap)) (.mk t.kd t.tx t.n (t.kids++[x])) (N7 p) /\
  PI c (aq.setCell (N9 p 3) (.slice (some (N9 g 0)) (t.kids.length+1) cap)) j d /\
  Ap c.R w.heap.size w (aq.setCell (N9 p 3) (.slice (some (N9 g 0)) (t.kids.length+1) cap)):=by
 have hlen:=Oz.length _ _ ew.kids;have bC:∀ I,U3 I w1 (w1.alloc (.cells #[N7 q] 22)):=fun I b _ hl=>Below.heap_alloc w1 _ b hl;have A:(w1.alloc (.cells #[N7 q] 22)).heap[p]? = some (O7 t.kd t.tx t.n u):=by rw[Below.heap_alloc w1 _ p (lt_of_heap ew.blk)];exact ew.blk
 have hrow:∀ k,u.ownBlock=some k->w.heap.size<=k:=fun k E=>(P6 ew.row k E).2;have hgrow:Below w.heap.size w1 aq:=((Below.refl w.heap.size w1).alloc be.size _).grown dd (by simp;have:=be.size;omega) hrow
 have hset:Below w.heap.size w1 (aq.setCell (N9 p 3) (.slice (some (N9 g 0)) (t.kids.length+1) cap)):=hgrow.setCell (p:=(N9 p 3)) ew.low _;refine⟨?_,dj.ap hset n1,be.trans (Ap.of hset)⟩;refine ald (w0:=w1.alloc (.cells #[N7 q] 22)) ew.low A ew.own (Oz.later (bC _) _ _ ac) (by rw[List.map_append];exact hown) (by simp[hlen]) dd ?_
 rcases hg with hg|hg
 ·exact Or.inl hg
 ·exact Or.inr (by simp[hg])
