import Derived.Test.YticfnaiehdpbmaaGreatDoorSt7
import Derived.Test.YticfnaiehdpbmaaGreatDoorSt5
import Derived.Test.YticfnaiehdpbmaaGreatDoorSt6
import Derived.Lib.ItoaNum
set_option maxRecDepth 100000
set_option maxHeartbeats 8000000
set_option linter.all false
namespace Go.Proofs.YticfnaiehdpbmaaGreatDoor
open Go.RowKit Go.Proofs.Tryz
def Pv {α β:Type}{r:PR α}{f:α->Nat->PR β}{y:β}{j:Nat}(h:r.bind f=.ok y j):∃ x i,r=.ok x i/\f x i=.ok y j:=by
 cases r with
 | ok x i=>exact⟨x,i,rfl,h⟩
 | bad er p=>cases h
 | out=>cases h
def ahl {s:Ou}:Ql s≠15:=by
 unfold Ql QC
 cases aF:hds.find? (fun e=>decide (s=e.1)) with
 | none=>decide
 | some e=>
  have aR:=List.mem_of_find?_eq_some aF;simp only[hds,List.mem_cons,List.not_mem_nil,or_false] at aR
  rcases aR with rfl|rfl|rfl|rfl|rfl|rfl|rfl|rfl <;> decide
def ahI {l:List Tk}{F:Sv}{kd:Int}{s:Ou}{d i j:Nat}{t:Tr}(h:QV l F kd s d i=.ok t j):t.kd=kd:=by
 unfold QV at h;have⟨_,_,_,h⟩:=Pv h;have⟨_,_,_,h⟩:=Pv h
 cases h;rfl
def auu {l:List Tk}{F:Sv}{d q i j:Nat}{t:Tr}(h:XC l F d q i=.ok t j):t.kd≠15:=by
 unfold XC at h
 split at h
 ·unfold XW at h;have⟨_,_,_,h⟩:=Pv h
  split at h
  ·
   cases h
  ·split at h
   ·exact axW
   ·have⟨_,_,_,h⟩:=Pv h
    cases h;exact ahl
 ·unfold XB at h;have⟨_,_,_,h⟩:=Pv h;have⟨_,_,_,h⟩:=Pv h;rw[ahI h];decide
 ·unfold PV at h;have⟨_,_,_,h⟩:=Pv h;have⟨_,_,_,h⟩:=Pv h;cases h
  show (6:Int)≠15
  decide
 ·have⟨_,_,_,h⟩:=Pv h
  cases h;decide
 ·unfold Uj at h;have⟨_,_,_,h⟩:=Pv h;have⟨_,_,_,h⟩:=Pv h
  split at h
  ·have⟨_,_,_,h⟩:=Pv h
   cases h;exact ahl
  ·
   cases h;exact ahl
 ·unfold RI at h;exact axW
 ·unfold UH at h
  split at h
  ·exact axW
  ·have⟨_,_,_,h⟩:=Pv h
   cases h;exact ahl
 ·unfold TY at h;have⟨_,_,_,h⟩:=Pv h;have⟨_,_,_,h⟩:=Pv h;have⟨_,_,_,h⟩:=Pv h;have⟨_,_,_,h⟩:=Pv h
  split at h
  ·
   cases h
  ·
   cases h
   show (12:Int)≠15
   decide
def ajx (l:List Tk):∀ k,FOk (fns l k):=by
 intro k
 cases k with
 | zero=>intro d i t j h;cases h
 | succ k=>
  intro d i t j h jd;have fb:Qo l (fns l k) d i=.ok t j:=h;unfold Qo at fb
  split at fb
  ·exact absurd jd (auu fb)
  ·unfold XY at fb;have⟨v,_,_,fb⟩:=Pv fb;have⟨_,_,_,fb⟩:=Pv fb
   cases fb
   exact⟨v,[],rfl⟩
def ahJ {c:Ctx}{F:Sv}(ah:FC c F)(hN:∃ k,FNx c.l k F):Does c 154 NV (TY c.l F):=by
 intro w d i r ab aO h;unfold TY at ab
 cases aR:O6 c.l abu i with
 | out=>rw[aR] at ab;exact absurd ab.symm aO
 | bad er p=>rw[aR,O9] at ab;subst ab;exact aHq w d i h er p aR
 | ok x i0=>
  rw[aR,bind_ok] at ab
  cases A:PV c.l F d i0 with
  | out=>rw[A] at ab;exact absurd ab.symm aO
  | bad er p=>rw[A,O9] at ab;subst ab;exact aHp ah hN w d i i0 h aR er p A
  | ok b a8=>
   rw[A,bind_ok] at ab;unfold Xh at ab
   by_cases ai:fx c.l a8=VA
   ·rw[if_pos ai,bind_assoc] at ab
    cases U:O6 c.l RP (a8+1) with
    | out=>rw[U] at ab;exact absurd ab.symm aO
    | bad er p=>rw[U,O9] at ab;subst ab;exact abf ah hN w d i i0 h aR b a8 A ai er p (Or.inl U)
    | ok dO i2=>
     rw[U,bind_ok,bind_assoc] at ab
     cases av:nameP c.l i2 with
     | out=>rw[av] at ab;exact absurd ab.symm aO
     | bad er p=>rw[av,O9] at ab;subst ab;exact abf ah hN w d i i0 h aR b a8 A ai er p (Or.inr ⟨i2,U,Or.inl av⟩)
     | ok s i3=>
      rw[av,bind_ok,bind_assoc] at ab
      cases aN:O6 c.l TV i3 with
      | out=>rw[aN] at ab;exact absurd ab.symm aO
      | bad er p=>rw[aN,O9] at ab;subst ab;exact abf ah hN w d i i0 h aR b a8 A ai er p (Or.inr ⟨i2,U,Or.inr ⟨s,i3,av,Or.inl aN⟩⟩)
      | ok i8 i4=>
       rw[aN,bind_ok,bind_assoc] at ab
       cases bx:PV c.l F d i4 with
       | out=>rw[bx] at ab;exact absurd ab.symm aO
       | bad er p=>rw[bx,O9] at ab;subst ab;exact abf ah hN w d i i0 h aR b a8 A ai er p (Or.inr ⟨i2,U,Or.inr ⟨s,i3,av,Or.inr ⟨i4,aN,bx⟩⟩⟩)
       | ok b2 i5=>
        rw[bx,bind_ok,bind_ok] at ab;unfold TW at ab
        by_cases aF:fx c.l i5=Ru
        ·rw[if_pos aF,bind_assoc] at ab
         cases cf:PV c.l F d (i5+1) with
         | out=>rw[cf] at ab;exact absurd ab.symm aO
         | bad er p=>rw[cf,O9] at ab;subst ab;exact ajL ah hN w d i i0 h aR b a8 A ai i2 U s i3 av i4 aN b2 i5 bx aF er p cf
         | ok em pW=>
          rw[cf,bind_ok,bind_ok,if_neg OW] at ab;subst ab;exact aut ah hN w d i i0 h aR b a8 A ai i2 U s i3 av i4 aN b2 i5 bx aF em pW cf
        ·rw[if_neg aF,bind_ok,if_neg OW] at ab;subst ab;exact aqH ah hN w d i i0 h aR b a8 A ai i2 U s i3 av i4 aN b2 i5 bx aF
   ·rw[if_neg ai,bind_ok] at ab;unfold TW at ab
    by_cases aF:fx c.l a8=Ru
    ·rw[if_pos aF,bind_assoc] at ab
     cases cf:PV c.l F d (a8+1) with
     | out=>rw[cf] at ab;exact absurd ab.symm aO
     | bad er p=>rw[cf,O9] at ab;subst ab;exact am1 ah hN w d i i0 h aR b a8 A ai aF er p cf
     | ok em pW=>
      rw[cf,bind_ok,bind_ok,if_neg OW] at ab;subst ab;exact ayA ah hN w d i i0 h aR b a8 A ai aF em pW cf
    ·rw[if_neg aF,bind_ok,if_pos OW] at ab;subst ab;exact aus ah hN w d i i0 h aR b a8 A ai aF
def aFw:VH 147:=fun _ _=>by kernel_rfl
def aFx:VH 148:=fun _ _=>by kernel_rfl
def aFy:VH 149:=fun _ _=>by kernel_rfl
def aFz:VH 150:=fun _ _=>by kernel_rfl
def aFA:VH 151:=fun _ _=>by kernel_rfl
def aFB:VH 152:=fun _ _=>by kernel_rfl
def aFC:VH 153:=fun _ _=>by kernel_rfl
def aFD:VH 154:=fun _ _=>by kernel_rfl
def aFE {s:Ou}{q:Nat}(h:QC Un s=some q):q<8:=by
 unfold QC at h
 cases aF:Un.find? (fun e=>decide (s=e.1)) with
 | none=>rw[aF] at h;cases h
 | some e=>
  rw[aF] at h;have aR:=List.mem_of_find?_eq_some aF;simp only[Option.map_some,Option.some.injEq] at h;subst h;simp only[Un,List.mem_cons,List.not_mem_nil,or_false] at aR
  rcases aR with rfl|rfl|rfl|rfl|rfl|rfl|rfl|rfl|rfl|rfl|rfl|rfl <;> decide
def aFF {c:Ctx}{w:Og}{d:Nat}{r:PR Tr}{e:Ending}{w':Og}(h:P9 c w d (EV w.heap.size) r e w'):P9 c w d (NV w.heap.size) r e w':=by
 cases r with
 | ok x j=>
  obtain⟨⟨v,h1,U⟩,av,aN⟩:=h;exact⟨⟨v,h1,U.nv⟩,av,aN⟩
 | bad er p=>exact h
 | out=>exact h
def adi {c:Ctx}{F:Sv}(ah:FC c F)(hN:∃ k,FNx c.l k F)(D:FOk F):Does c 160 NV (Qo c.l F):=by
 intro w d i r ab aO h;unfold Qo at ab
 cases ag:QC Un (fx c.l i) with
 | none=>rw[ag] at ab;exact aum ah w d i r ab aO ag h
 | some q=>
  rw[ag] at ab;have aM:=aFE ag;have yc:(OX c.l i).kd≠6:=fun cf=>by
   have:fx c.l i=Oh:=by unfold fx;rw[cf];rfl
   have h0:QC Un Oh=none:=by decide
   rw[this,h0] at ag;cases ag
  have hb:q=0\/q=1\/q=2\/q=3\/q=4\/q=5\/q=6\/q=7:=Oe
  rcases hb with rfl|rfl|rfl|rfl|rfl|rfl|rfl|rfl
  ·exact Wu 147 aFw w d i r aO 0 ag rfl (fun W a6=>aqG ah W d i r yc ab aO a6) h
  ·exact Wu 148 aFx w d i r aO 1 ag rfl (fun W a6=>aqD ah hN D W d i r ab aO a6) h
  ·exact Wu 149 aFy w d i r aO 2 ag rfl (fun W a6=>(QL ah hN W d i r ab aO a6).mono fun e w' al=>aFF al) h
  ·exact Wu 150 aFz w d i r aO 3 ag rfl (fun W a6=>empty_any W d i r ab aO a6) h
  ·exact Wu 151 aFA w d i r aO 4 ag rfl (fun W a6=>ajJ ah W d i r yc ab aO a6) h
  ·exact Wu 152 aFB w d i r aO 5 ag rfl (fun W a6=>(Zc ah W d i r yc ab aO a6).mono fun e w' al=>aFF al) h
  ·exact Wu 153 aFC w d i r aO 6 ag rfl (fun W a6=>ajK ah W d i r yc ab aO a6) h
  ·exact Wu 154 aFD w d i r aO 7 ag rfl (fun W a6=>ahJ ah hN W d i r ab aO a6) h
def aqk (c:Ctx)(aL:Ends c.l):∀ k,FC c (fns c.l k):=by
 intro k
 induction k with
 | zero=>exact⟨fun _ _ _ r ab aO _=>absurd ab.symm aO,fun _ _ _ r ab aO _=>absurd ab.symm aO,fun _ _ _ _ _ _ r ab aO _=>absurd ab.symm aO,fun _ _ _ r ab aO _=>absurd ab.symm aO⟩
 | succ k bv=>
  have hN:∃ q,FNx c.l q (fns c.l k):=⟨k,aip aL k⟩;exact⟨adi bv hN (ajx c.l k),amY bv,fun b _ _ w d i r ab aO h=>aqE bv hN b w d i r ab aO h,ajI bv (am0 bv hN (ajx c.l k))⟩
def aqh (B:Nat)(t:Tr)(p:Nat)(w:Og)(h:PO (From B) w t p)(ai:t.count<=90000) :
  Oq 35 #[N7 p] w fun e w'=>e=OA (NY (t.count:Int))/\Oo w w':=by
 have jx:=Yc;have ax:PO (fun x=>x≠w.heap.size) (w.alloc (.cells #[NY 0] 3)) t p:=
  PO.later (I:=fun x=>x≠w.heap.size) (fun b _ hl=>Below.heap_alloc w _ b hl) _ _ (PO.mono (fun b _ hl=>by omega) _ _ h)
 have m':Cnt w.heap.size 0 (w.alloc (.cells #[NY 0] 3)):=⟨Oi _ _⟩;have aj:=(walk_any w.heap.size t.count t Pg p 0 _ ax m' Oe);clear h ai;go_enter func35,ntmps35;go_wp2_with fail;refine cm aj ?_;rintro e w1 ⟨rfl,fN,ha1⟩;have c0:w1.cell? (N9 w.heap.size 0)=some (NY (((0+t.count:Nat)):Int)):=by rw[cell_of fN.blk];rfl
 rw[Nat.zero_add] at c0;have bO:Oo w w1:=(QI.alloc Pg (.cells #[NY 0] 3)).trans ((ha1.mono OW).below Pg);go_wp2;go_ret;exact⟨rfl,bO⟩
inductive PaR where
 | ok (t:Tr)
 | at (er:Int) (p:Nat)
 | bare
abbrev KK:Nat:=24100
def Qu (aY gs:List Ou)(s:Ou):PaR:=
 if 3000<s.size then .bare
 else match Q7 aY gs s (OC PU s 0) [] with
  | .bad er p=>.at er p
  | .ok l=>match UJ l (fns l KK) with
   | .bad er p=>.at er p
   | .ok t _=>if 1500<t.count then .bare else .ok t
   | .out=>.bare
def aao (r:PaR)(w:Og)(e:Ending)(w':Og):Prop:=
 match r with
 | .ok t=>∃ p,e=OA (.tuple #[N7 p,.nilIface])/\PO (From w.heap.size) w' t p/\Oo w w'
 | .at er pl=>∃ b,e=OA (.tuple #[.pointer none,.iface 150 (Oy b 0)])/\w'.heap[b]? = some (OM #[NY er,NY (pl:Int)] 152)/\w.heap.size<=b/\Oo w w'
 | .bare=>e=OA (.tuple #[.pointer none,.iface 34 (NY 4)])/\Oo w w'
def aqi {aY gs:List Ou}{s:Ou}{k:Nat}{kd n:Int}{tx:Ou}{e:Nat}(h:Tc aY gs s k=.tok kd tx n e):kd≠6:=by
 unfold Tc at h
 split at h
 ·unfold SG at h
  split at h
  ·
   cases h;decide
  ·split at h
   ·
    cases h
   ·
    cases h;decide
 ·split at h
  ·unfold rdNum at h
   split at h
   ·
    cases h
   ·split at h
    ·
     cases h
    ·split at h
     ·
      cases h
     ·
      cases h;decide
  ·split at h
   ·unfold rdStr at h
    split at h
    ·split at h
     ·
      cases h
     ·
      cases h;decide
    ·
     cases h
   ·unfold TL at h
    split at h
    ·
     cases h;decide
    ·
     cases h
def amS (aY gs:List Ou)(s:Ou)(j6:∀ g ∈ gs,1<=g.size):∀ m i aX l,s.size - i=m->i<=s.size->Q7 aY gs s i aX=.ok l ->
  ∃ l',l=aX++l'++[⟨6,⟨#[]⟩,0,s.size⟩]/\(∀ t ∈ l',t.kd≠6)/\l'.length<=s.size - i:=by
 intro m
 induction m using Nat.strongRecOn with
 | ind m bv=>
  intro i aX l aR az h
  by_cases aM:i<s.size
  ·
   cases aa:Tc aY gs s i with
   | bad er p=>rw[WH aY gs s i aX er p aM aa] at h;cases h
   | tok kd tx n e=>
    have z:=N8 (∀{G}(h:G:=by
    have⟨l',h1,U,av⟩:=bv (s.size - OC PU s e) Oe (OC PU s e) _ l rfl gh h;refine⟨⟨kd,tx,n,i⟩::l',by rw[h1];simp,fun t aZ=>?_,by simp;omega⟩
    rcases List.mem_cons.1 aZ with rfl|aZ
    ·exact aqi aa
    ·exact U t aZ),G);exact azn
  ·rw[TD aY gs s i aX aM] at h;exact⟨[],by cases h;simp,fun t aZ=>absurd aZ OW,by simp⟩
def amT {aY gs:List Ou}{s:Ou}(j6:∀ g ∈ gs,1<=g.size){l:List Tk}(h:Q7 aY gs s (OC PU s 0) []=.ok l):Ends l/\0<l.length/\l.length<=s.size+1:=by
 have⟨l',h1,U,av⟩:=amS aY gs s j6 _ (OC PU s 0) [] l rfl (QU PU s 0 (Nat.zero_le _)) h;rw[List.nil_append] at h1;subst h1;refine⟨fun i az=>?_,by simp,by simp;omega⟩
 rw[List.length_append,List.length_singleton] at az;unfold OX;rw[List.getD_eq_getElem?_getD,List.length_append,List.length_singleton]
 by_cases rt:i<l'.length
 ·rw[List.getElem?_append_left rt,List.getElem?_eq_getElem rt];constructor
  ·intro cf;exact absurd cf (U _ (List.getElem_mem rt))
  ·intro cf;omega
 ·have kt:i=l'.length:=Oe;subst kt;rw[List.getElem?_append_right Pg,Nat.sub_self];simp
section
variable {l:List Tk} {k:Nat} {F:Sv} (ah:FNx l k F)
include l k F ah
def ahs (E:8 * l.length+3<k):∀ n aX i,i<l.length->l.length - i<n->Qi l F n aX i≠.out:=by
 intro n
 induction n with
 | zero=>intro aX i az ax;omega
 | succ n bv=>
  intro aX i az ax;unfold Qi
  split
  ·nofun
  ·have hd:=QW (l:=l) (d:=0) ((ah.st (0+1) i az).imp (q':=True) (fun _=>by omega))
   cases aa:Pn l F.st 0 i with
   | out=>exact absurd aa (hd.1 trivial)
   | bad er p=>rw[PR.bind];nofun
   | ok t j=>
    have:=hd.2 t j aa;exact bv _ j this.2 Oe
def aht:∀ n aX i ap j,i<l.length->Qi l F n aX i=.ok ap j->j<l.length:=by
 intro n
 induction n with
 | zero=>intro aX i ap j _ h;cases h
 | succ n bv=>
  intro aX i ap j az h;unfold Qi at h
  split at h
  ·
   cases h;exact az
  ·have⟨t,bR,h1,h⟩:=Pv h;exact bv _ bR _ _ ((QW (l:=l) (d:=0) (ah.st (0+1) i az)).2 t bR h1).2 h
end
def acA {l:List Tk}(aL:Ends l)(h0:0<l.length)(hl:l.length<=3001):UJ l (fns l KK)≠.out/\∀ t j,UJ l (fns l KK)=.ok t j->j<l.length:=by
 have ah:=aip aL KK;have h1:=ahs ah (by unfold KK;omega) (fns l KK).fuel [] 0 h0 (by rw[ah.fuel];unfold KK;omega)
 unfold UJ;constructor
 ·
  cases aa:Qi l (fns l KK) (fns l KK).fuel [] 0 with
  | out=>exact absurd aa h1
  | bad er p=>nofun
  | ok ap j=>nofun
 ·intro t j h;have⟨ap,bR,U,h⟩:=Pv h;cases h;exact aht ah _ _ _ _ _ h0 U
structure Tabs (w:Og):Prop where
 heads:∃ t fr,w.heap[4]? = some (.cells VK t fr)
 signs:∃ t fr,w.heap[3]? = some (.cells Wq t fr)
def Tabs.later {w w':Og}(h:Tabs w)(A:Oo w w'):Tabs w':=by
 obtain⟨⟨t,fr,h1⟩,⟨t2,vR,U⟩⟩:=h;exact⟨⟨t,fr,by rw[A.block _ (lt_of_heap h1)];exact h1⟩,⟨t2,vR,by rw[A.block _ (lt_of_heap U)];exact U⟩⟩
def aqj (w:Og):Oo w (RW w):=PE.alloc OW _
def afj (w:Og)(l:List Tk)(g cap:Nat)(ck:Array Ot)(aL:Ends l)(h0:0<l.length)(hl:l.length<=3001)(aZ:w.heap[g]? = some (OM ck 144))(hcap:l.length<=cap/\cap<=maxLen/\ck.size=cap * 4/\ck.toList.take (l.length * 4)=QT l)(dZ:Tabs w) :
  Oq 34 #[.slice (some (N9 g 0)) l.length cap] w (acB (UJ l (fns l KK)) w):=by
 have A:=aqj w;have Dw:=dZ.later A;have dP:=adg (RW w) l g cap ck aL h0 hl (by rw[A.block _ (lt_of_heap aZ)];exact aZ) hcap Dw.heads Dw.signs
 have ah:∀ c:Ctx,c.l=l->FC c (fns c.l KK):=fun c ai=>aqk c (by rw[ai];exact aL) KK
 have al:=(acA aL h0 hl).1
 cases aa:UJ l (fns l KK) with
 | out=>exact absurd aa al
 | bad er pl=>
  refine aql w l g cap er pl dP fun c W ai ba=>?_;exact aDZ
 | ok t j=>
  refine aua w l g cap t j dP fun c W ai ba=>?_;exact aDZ
section
variable (s:Ou) (w:Og)
include s w
def ajz (ab:3000<s.size):Oq 15 #[Oj s] w (aao .bare w):=by
 have aj:=(ahu s w ab);clear ab;go_enter func15,ntmps15;go_wp2_with fail;refine cm aj ?_;rintro e w1 ⟨rfl,rfl⟩;go_wp2_with fail;exact UC (v:=.tuple #[QS,.iface 34 (NY 4)]) ⟨rfl,QI⟩
def ajA (er:Int)(p:Nat)(h:Oq 33 #[Oj s] w (ak4 (.bad er p) w)):Oq 15 #[Oj s] w (aao (.at er p) w):=by
 go_enter func15,ntmps15;go_wp2_with fail;refine cm h ?_;rintro e w1 ⟨b,rfl,bZ,aE,bn⟩;have uU:=hide bZ;have gY:=hide aE;clear bZ aE h;go_wp2_with fail;exact UC (v:=.tuple #[QS,.iface 150 (Oy b 0)]) ⟨b,rfl,uU.out,gY.out,bn⟩
def amU (l:List Tk)(er:Int)(p:Nat)(h:Oq 33 #[Oj s] w (ak4 (.ok l) w))(h0:0<l.length)(aa:∀ (W:Og) (g cap:Nat) (ck:Array Ot),Oo w W->W.heap[g]? = some (OM ck 144)->(l.length<=cap/\cap<=maxLen/\ck.size=cap * 4/\ck.toList.take (l.length * 4)=QT l)->Oq 34 #[.slice (some (N9 g 0)) l.length cap] W (acB (.bad er p) W)) :
  Oq 15 #[Oj s] w (aao (.at er p) w):=by
 have dy:=hide aa;clear aa;go_enter func15,ntmps15;go_wp2_with fail;refine cm h ?_;rintro e w1 ⟨v,rfl,hown,bZ⟩
 rcases hown.2 with ax|⟨g,cap,ck,rfl,hg,hh,h1,U,av,aN⟩
 ·omega
 ·have hq:=(dy.out w1 g cap ck bZ hh ⟨h1,U,av,aN⟩);have eE:=bZ;clear bZ hg hh h1 U av aN h;go_wp2_with fail;refine cm hq ?_;rintro e w2 ⟨b,rfl,bZ,aE,bn⟩;have uU:=hide bZ;have E7:=(eE.trans (bn.mono eE.size));have gY:=hide (Nat.le_trans eE.size aE);clear bZ aE;go_wp2_with fail;exact UC (v:=.tuple #[QS,.iface 150 (Oy b 0)]) ⟨b,rfl,uU.out,gY.out,E7⟩
def aqm (l:List Tk)(t:Tr)(j:Nat)(h:Oq 33 #[Oj s] w (ak4 (.ok l) w))(h0:0<l.length)(ai:t.count<=90000)(aa:∀ (W:Og) (g cap:Nat) (ck:Array Ot),Oo w W->W.heap[g]? = some (OM ck 144)->(l.length<=cap/\cap<=maxLen/\ck.size=cap * 4/\ck.toList.take (l.length * 4)=QT l)->Oq 34 #[.slice (some (N9 g 0)) l.length cap] W (acB (.ok t j) W)) :
  Oq 15 #[Oj s] w (aao (if 1500<t.count then .bare else .ok t) w):=by
 have dy:=hide aa;have gc:=hide ai;have⟨r,bV⟩:=xH ((if 1500<t.count then PaR.bare else .ok t));rw[<-bV.out];clear aa ai;go_enter func15,ntmps15;go_wp2_with fail;refine cm h ?_;rintro e w1 ⟨v,rfl,hown,bZ⟩
 rcases hown.2 with ax|⟨g,cap,ck,rfl,hg,hh,h1,U,av,aN⟩
 ·omega
 ·have hq:=(dy.out w1 g cap ck bZ hh ⟨h1,U,av,aN⟩);clear hg hh h1 U av aN h;go_wp2_with fail;refine cm hq ?_;rintro e w2 ⟨p,rfl,ax,A⟩;have cq:=(bZ.trans (A.mono bZ.size));have ez:=(aqh w1.heap.size t p w2 ax gc.out);have iQ:=hide bZ.size;clear A;go_wp2_with fail;refine cm ez ?_;rintro e aq ⟨rfl,bn⟩;have dG:=(cq.trans (bn.mono cq.size));have tF:PO (From w.heap.size) aq t p:=PO.mono (fun b A _=>Nat.le_trans iQ.out A) _ _ (PO.later (I:=From w1.heap.size) (fun b _ hl=>bn.block b hl) _ _ ax)
  by_cases jd:1500<t.count
  ·have ag:r=.bare:=by rw[bV.out,if_pos jd]
   have bj:=hide ag;clear ag;have az:(1500:Int)<(t.count:Int):=Oe;clear jd;go_wp2_with fail;exact UC (v:=.tuple #[QS,.iface 34 (NY 4)]) (by rw[bj.out];exact⟨rfl,dG⟩)
  ·have ag:r=.ok t:=by rw[bV.out,if_neg jd]
   have bj:=hide ag;clear ag;have az:¬ (1500:Int)<(t.count:Int):=Oe;clear jd;go_wp2_with fail;exact UC (v:=.tuple #[N7 p,Qd]) (by rw[bj.out];exact⟨p,rfl,tF,dG⟩)
end
def parse_any (aY gs:List Ou)(s:Ou)(w:Og)(dA:Lists aY gs w)(j6:∀ g ∈ gs,1<=g.size)(dZ:Tabs w):Oq 15 #[Oj s] w (aao (Qu aY gs s) w):=by
 unfold Qu
 by_cases ab:3000<s.size
 ·rw[if_pos ab];exact ajz s w ab
 ·rw[if_neg ab];have E:=ajB aY gs s w Oe dA j6
  cases aZ:Q7 aY gs s (OC PU s 0) [] with
  | bad er p=>rw[aZ] at E;exact ajA s w er p E
  | ok l=>
   rw[aZ] at E;have⟨aL,h0,hl⟩:=amT j6 aZ;have f8:l.length<=3001:=Oe;have⟨oX,bb⟩:=acA aL h0 f8;have ba:=fun(W:Og) (g cap:Nat) (ck:Array Ot) (A:Oo w W) hh hcap=>afj W l g cap ck aL h0 f8 hh hcap (dZ.later A);simp only
   cases aa:UJ l (fns l KK) with
   | out=>exact absurd aa oX
   | bad er p=>rw[aa] at ba;exact amU s w l er p E h0 ba
   | ok t j=>
    rw[aa] at ba;have aS:=bb t j aa;have ul:=arZ (avI KK) aa;exact aqm s w l t j E h0 Oe ba
section
variable {P:Program} {b0:Region.Mode} {bf:Array Oper} {Q:Exit->Act->Og->Prop} {S:Og->Prop} {b:Nat}
def Qq (P:Program)(b0:Region.Mode)(bf:Array Oper)(Q:Exit->Act->Og->Prop)(S:Og->Prop)(b:Nat):Nat->Array Bool->Act->Og->Prop
 | 0,listed,a,w=>Region.ready b0 bf listed=[]/\Q .normal a w
 | n+1,listed,a,w=>(Region.ready b0 bf listed=[]->Q .normal a w)/\∀ i ∈ Region.ready b0 bf listed,wpOp P bf Q i (fun jc w'=>((listed.setIfInBounds i true).getD b false=false->S w')/\Qq P b0 bf Q S b n (listed.setIfInBounds i true) jc w') a w
def acM:∀ (n:Nat) (listed:Array Bool) (a:Act) (w:Og),Qq P b0 bf Q S b n listed a w->wpAny P b0 bf Q n listed a w
 | 0,_,_,_,h=>h
 | n+1,_,_,_,h=>⟨h.1,fun i az=>wpOp_mono (fun jc w' fb=>acM n _ jc w' fb.2) (h.2 i az)⟩
def ahS {i:Nat}{dH:Oper}{v:Ot}(az:bf[i]? = some dH)(hsel:∀ (j:Nat) (o:Oper) cs c,bf[j]? = some o->o.op≠.select cs c)
  (hG:∀ c a w,Q (.panic c) (a.put dH.dst v) w->Q (.panic c) a w) (jP:i≠b) :
  ∀ (n:Nat) (listed:Array Bool) (a:Act) (w:Og),
   (∀ j oj,bf[j]? = some oj->j≠i->listed.getD j true=false->(∀ e ∈ oj.after,Region.binds b0 e=true->e.on≠i)->dH.apart bf oj=true) ->
   i ∈ Region.ready b0 bf listed->YieldsIf P bf (fun _=>True) dH v a->(listed.getD b false=false->S w) ->
   Qq P b0 bf Q S b n (listed.setIfInBounds i true) (a.put dH.dst v) w->Qq P b0 bf Q S b (n+1) listed a w:=by
 have waits:∀ {listed:Array Bool} {oj:Oper},i ∈ Region.ready b0 bf listed->(∀ e ∈ oj.after,Region.binds b0 e=true->listed.getD e.on false=true)->∀ e ∈ oj.after,Region.binds b0 e=true->e.on≠i:=by
  intro listed oj aa hall e ao A qy;exact aDW
 intro n
 induction n with
 | zero=>
  intro listed a w _ aa hy g5 H;refine⟨fun h=>(by rw[h] at aa;cases aa),fun j aS=>?_⟩
  by_cases iE:j=i
  ·subst iE;exact hy.wpOp az trivial ⟨fun h=>g5 (by rw[getD_set_ne false jP] at h;exact h),H⟩
  ·have aR:=ready_mono aS iE;rw[H.1] at aR;cases aR
 | succ n bv=>
  intro listed a w hfree aa hy g5 H;refine⟨fun h=>(by rw[h] at aa;cases aa),fun j aS=>?_⟩
  by_cases iE:j=i
  ·subst iE;exact hy.wpOp az trivial ⟨fun h=>g5 (by rw[getD_set_ne false jP] at h;exact h),H⟩
  ·have⟨hjun,oj,uy,hall⟩:=mem_ready.1 aS;have hnot:=waits (oj:=oj) aa hall;have z:=N8 (∀{G}(h:G:=by
   have v7:(listed.setIfInBounds j true).getD b false=false->S w':=fun h=>av.2.1 (by rw[Array.setIfInBounds_comm _ _ (Ne.symm iE),getD_set_ne false jP];exact h)
   refine⟨v7,bv (listed.setIfInBounds j true) jc w' (fun m w4 aR wn wM gL=>hfree m w4 aR wn ?_ gL) (ready_mono aa (Ne.symm iE)) av.1 v7 ?_⟩
   ·by_cases ru:j=m
    ·subst ru;exact hjun
    ·rw[getD_set_ne true ru] at wM;exact wM
   ·rw[Array.setIfInBounds_comm _ _ iE];exact av.2.2),G);exact aEO
def uh {dH:Oper}{n:Nat}{listed:Array Bool}{a:Act}{w:Og}(i:Nat)(v:Ot)(g5:S w)
  (h:Qq P b0 bf Q S b n (listed.setIfInBounds i true) (a.put dH.dst v) w) (az:bf[i]? = some dH:=by rfl) (hG:∀ c a w,Q (.panic c) (a.put dH.dst v) w->Q (.panic c) a w:=by exact fun _ _ _ h=>h)
  (ab:Region.noSelect bf=true:=by kernel_rfl) (aF:Region.free b0 bf listed i=true:=by kernel_rfl) (aa:(Region.ready b0 bf listed).contains i=true:=by kernel_rfl)
  (jP:i≠b:=by decide) (hy:YieldsIf P bf (fun _=>True) dH v a:=by exact Or.inl ⟨by kernel_rfl,fun _ _=>by go_simp⟩):Qq P b0 bf Q S b (n+1) listed a w:=
 ahS az (Region.noSelect_spec ab) hG jP n listed a w (Region.free_spec az aF) (by simpa using aa) hy (fun _=>g5) h
def uz {dH:Oper}{n:Nat}{listed:Array Bool}{a:Act}{w:Og}(i:Nat)(v:Ot)
  (h:Qq P b0 bf Q S b n (listed.setIfInBounds i true) (a.put dH.dst v) w) (az:bf[i]? = some dH:=by rfl) (hG:∀ c a w,Q (.panic c) (a.put dH.dst v) w->Q (.panic c) a w:=by exact fun _ _ _ h=>h)
  (ab:Region.noSelect bf=true:=by kernel_rfl) (aF:Region.free b0 bf listed i=true:=by kernel_rfl) (aa:(Region.ready b0 bf listed).contains i=true:=by kernel_rfl)
  (jP:i≠b:=by decide) (hl:listed.getD b false=true:=by kernel_rfl) (hy:YieldsIf P bf (fun _=>True) dH v a:=by exact Or.inl ⟨by kernel_rfl,fun _ _=>by go_simp⟩):Qq P b0 bf Q S b (n+1) listed a w:=
 ahS az (Region.noSelect_spec ab) hG jP n listed a w (Region.free_spec az aF) (by simpa using aa) hy (fun e=>by rw[hl] at e;cases e) h
def uop {o:Oper}{i:Nat}{a:Act}{w:Og}{K:Act->Og->Prop}(aO:bf[i]? = some o)(h:if Region.wanted o (yielded bf a.tmps)=true then Oper.wp P o a w K Q else K (a.put o.dst undef) w):wpOp P bf Q i K a w:=by
 unfold wpOp;simp only[aO]
 split
 ·rename_i hw;rw[if_pos hw] at h;exact .inl h
 ·rename_i hw;rw[if_neg hw] at h;exact h
def PS {o:Oper}{n:Nat}{listed:Array Bool}{a:Act}{w:Og}(i:Nat)
  (h:∀ hB:Act->Og->Prop,Shut (∀ a w,((listed.setIfInBounds i true).getD b false=false->S w)->Qq P b0 bf Q S b n (listed.setIfInBounds i true) a w->hB a w)->if Region.wanted o (yielded bf a.tmps)=true then Oper.wp P o a w hB Q else hB (a.put o.dst undef) w)
  (aO:bf[i]? = some o:=by rfl) (aa:Region.ready b0 bf listed=[i]:=by kernel_rfl):Qq P b0 bf Q S b (n+1) listed a w:=by
 refine⟨fun h0=>(by rw[aa] at h0;cases h0),fun j aS=>?_⟩
 rw[aa] at aS;obtain rfl:=List.mem_singleton.1 aS;exact uop aO (h _ fun a w h1 U=>⟨h1,U⟩)
def uq2 {o gT:Oper}{n:Nat}{listed:Array Bool}{a:Act}{w:Og}(i j:Nat)
  (h:∀ hB:Act->Og->Prop,Shut (∀ a w,((listed.setIfInBounds i true).getD b false=false->S w)->Qq P b0 bf Q S b n (listed.setIfInBounds i true) a w->hB a w)->if Region.wanted o (yielded bf a.tmps)=true then Oper.wp P o a w hB Q else hB (a.put o.dst undef) w)
  (fb:∀ hB:Act->Og->Prop,Shut (∀ a w,((listed.setIfInBounds j true).getD b false=false->S w)->Qq P b0 bf Q S b n (listed.setIfInBounds j true) a w->hB a w)->if Region.wanted gT (yielded bf a.tmps)=true then Oper.wp P gT a w hB Q else hB (a.put gT.dst undef) w)
  (aO:bf[i]? = some o:=by rfl) (AU:bf[j]? = some gT:=by rfl) (aa:Region.ready b0 bf listed=[i,j]:=by kernel_rfl):Qq P b0 bf Q S b (n+1) listed a w:=by
 refine⟨fun h0=>(by rw[aa] at h0;cases h0),fun m aR=>?_⟩
 rw[aa] at aR
 rcases List.mem_cons.1 aR with rfl|aR
 ·exact uop aO (h _ fun a w h1 U=>⟨h1,U⟩)
 ·obtain rfl:=List.mem_singleton.1 aR;exact uop AU (fb _ fun a w h1 U=>⟨h1,U⟩)
def aFP {listed:Array Bool}{a:Act}{w:Og}(aa:Region.ready b0 bf listed=[])(h:Q .normal a w):∀ n,Qq P b0 bf Q S b n listed a w
 | 0=>⟨aa,h⟩
 | _+1=>⟨fun _=>h,by rw[aa];simp⟩
def Qs {id:Nat}{a:Act}{w:Og}(b:Nat)(S:Og->Prop)(aR:P.follows .mixedOrders=true)(h:Qq P .any bf Q S b bf.size (Array.replicate bf.size false) a w.drew):(Code.region id bf true).wp P Q a w:=
 wp_region_any aR (acM _ _ _ _ h)
def afC (b0:Region.Mode)(bf:Array Oper):Nat->Nat->Nat->Bool
 | 0,_,_=>false
 | n+1,b,i=>match bf[b]? with
  | none=>false
  | some ob=>ob.after.any fun e=>Region.binds b0 e&&(e.on==i||afC b0 bf n e.on i)
def Closed (b0:Region.Mode)(bf:Array Oper)(listed:Array Bool):Prop:=∀ (j:Nat) (oj:Oper),bf[j]? = some oj->listed.getD j false=true->∀ e ∈ oj.after,Region.binds b0 e=true->listed.getD e.on false=true
def acN {listed:Array Bool}{i:Nat}(ai:Closed b0 bf listed):∀ (n j:Nat) (oj:Oper),bf[j]? = some oj->(∀ e ∈ oj.after,Region.binds b0 e=true->listed.getD e.on false=true)->afC b0 bf n j i=true->listed.getD i false=true
 | 0,_,_,_,_,h=>by cases h
 | n+1,j,oj,aO,hall,h=>by
  rw[afC,aO] at h;have⟨e,ao,U⟩:=Array.any_eq_true'.1 h;rw[Bool.and_eq_true,Bool.or_eq_true] at U;have av:=hall e ao U.1
  rcases U.2 with aN|aN
  ·rw[<-eq_of_beq aN];exact av
  ·
   cases hoe:bf[e.on]? with
   | none=>
    cases n with
    | zero=>cases aN
    | succ n=>rw[afC,hoe] at aN;cases aN
   | some oe=>exact acN ai n e.on oe hoe (ai e.on oe hoe av) aN
def adq {listed:Array Bool}{j k:Nat}(h:listed.getD k false=true):(listed.setIfInBounds j true).getD k false=true:=by
 by_cases D5:j=k
 ·subst D5;have hl:j<listed.size:=by
   rcases Nat.lt_or_ge j listed.size with hl|hl
   ·exact hl
   ·rw[Array.getD_eq_getD_getElem?,Array.getElem?_eq_none hl] at h;cases h
  simp[hl]
 ·rw[getD_set_ne false D5];exact h
def ajT {listed:Array Bool}{j:Nat}{oj:Oper}(ai:Closed b0 bf listed)(aO:bf[j]? = some oj)(hall:∀ e ∈ oj.after,Region.binds b0 e=true->listed.getD e.on false=true):Closed b0 bf (listed.setIfInBounds j true):=by
 intro m w4 aR hl e ao A;refine adq ?_
 by_cases ru:j=m
 ·subst ru;rw[aO] at aR;cases aR;exact hall e ao A
 ·rw[getD_set_ne false ru] at hl;exact ai m w4 aR hl e ao A
def ZP (b0:Region.Mode)(bf:Array Oper)(listed:Array Bool):Bool:=(List.range bf.size).all fun j=>!(listed.getD j false)||(match bf[j]? with|some o=>o.after.all fun e=>!(Region.binds b0 e)||listed.getD e.on false|none=>true)
def am8 {listed:Array Bool}(h:ZP b0 bf listed=true):Closed b0 bf listed:=by
 intro j oj aO hl e ao A;have aS:j<bf.size:=(Array.getElem?_eq_some_iff.1 aO).1;have h1:=List.all_eq_true.1 h j (List.mem_range.2 aS);rw[hl,aO] at h1;simp only[Bool.not_true,Bool.false_or] at h1;have U:=Array.all_eq_true'.1 h1 e ao;rw[A] at U;simpa using U
def aqY {i k:Nat}{dH:Oper}{v:Ot}(az:bf[i]? = some dH)(hsel:∀ (j:Nat) (o:Oper) cs c,bf[j]? = some o->o.op≠.select cs c)
  (hG:∀ c a w,Q (.panic c) (a.put dH.dst v) w->Q (.panic c) a w) (jP:i≠b) (hw:afC b0 bf k b i=true) :
  ∀ (n:Nat) (listed:Array Bool) (a:Act) (w:Og),listed.getD b false=false->Closed b0 bf listed ->
   (∀ j oj,bf[j]? = some oj->j≠i->listed.getD j true=false->(∀ e ∈ oj.after,Region.binds b0 e=true->e.on≠i)->dH.apart bf oj=true) ->
   i ∈ Region.ready b0 bf listed->YieldsIf P bf S dH v a->S w ->
   Qq P b0 bf Q S b n (listed.setIfInBounds i true) (a.put dH.dst v) w->Qq P b0 bf Q S b (n+1) listed a w:=by
 have waits:∀ {listed:Array Bool} {j:Nat} {oj:Oper},i ∈ Region.ready b0 bf listed->(∀ e ∈ oj.after,Region.binds b0 e=true->listed.getD e.on false=true)->∀ e ∈ oj.after,Region.binds b0 e=true->e.on≠i:=by
  intro listed j oj aa hall e ao A qy;exact aDW
 intro n
 induction n with
 | zero=>
  intro listed a w fd _ _ aa hy g5 H;refine⟨fun h=>(by rw[h] at aa;cases aa),fun j aS=>?_⟩
  by_cases iE:j=i
  ·subst iE;exact hy.wpOp az g5 ⟨fun _=>g5,H⟩
  ·have aR:=ready_mono aS iE;rw[H.1] at aR;cases aR
 | succ n bv=>
  intro listed a w fd dE hfree aa hy g5 H;refine⟨fun h=>(by rw[h] at aa;cases aa),fun j aS=>?_⟩
  by_cases iE:j=i
  ·subst iE;exact hy.wpOp az g5 ⟨fun _=>g5,H⟩
  ·have⟨hjun,oj,uy,hall⟩:=mem_ready.1 aS;have hnot:=waits (j:=j) (oj:=oj) aa hall;have D4:j≠b:=fun e=>by
    subst e;have hu:=acN dE k j oj uy hall hw;have h0:=(mem_ready.1 aa).1
    cases ac:listed[i]? with
    | none=>simp[ac] at hu
    | some x=>simp[ac] at h0 hu;rw[h0] at hu;cases hu
   have z:=N8 (∀{G}(h:G:=by
   have v7:S w':=av.2.1 (by rw[getD_set_ne false D4,getD_set_ne false jP];exact fd)
   refine⟨fun _=>v7,bv (listed.setIfInBounds j true) jc w' (by rw[getD_set_ne false D4];exact fd) (ajT dE uy hall) (fun m w4 aR wn wM gL=>hfree m w4 aR wn ?_ gL) (ready_mono aa (Ne.symm iE)) av.1 v7 ?_⟩
   ·by_cases ru:j=m
    ·subst ru;exact hjun
    ·rw[getD_set_ne true ru] at wM;exact wM
   ·rw[Array.setIfInBounds_comm _ _ iE];exact av.2.2),G);exact aEO
def uc {dH:Oper}{n:Nat}{listed:Array Bool}{a:Act}{w:Og}(i:Nat)(v:Ot)(az:bf[i]? = some dH)(hy:YieldsIf P bf S dH v a)(g5:S w)
  (h:Qq P b0 bf Q S b n (listed.setIfInBounds i true) (a.put dH.dst v) w) (hG:∀ c a w,Q (.panic c) (a.put dH.dst v) w->Q (.panic c) a w:=by exact fun _ _ _ h=>h)
  (ab:Region.noSelect bf=true:=by kernel_rfl) (aF:Region.free b0 bf listed i=true:=by kernel_rfl) (aa:(Region.ready b0 bf listed).contains i=true:=by kernel_rfl)
  (jP:i≠b:=by decide) (hw:afC b0 bf bf.size b i=true:=by kernel_rfl) (dE:ZP b0 bf listed=true:=by kernel_rfl) (fd:listed.getD b false=false:=by kernel_rfl):Qq P b0 bf Q S b (n+1) listed a w:=
 aqY az (Region.noSelect_spec ab) hG jP hw n listed a w fd (am8 dE) (Region.free_spec az aF) (by simpa using aa) hy g5 h
variable {dH:Oper}{n:Nat}{listed:Array Bool}{a:Act}{w w0:Og}
def up (i c o:Nat)(g5:S w)
  (h:Qq P b0 bf Q S b n (listed.setIfInBounds i true) (a.put dH.dst (Oy c o)) w) (az:bf[i]? = some dH:=by rfl) (hG:∀ eT a w,Q (.panic eT) (a.put dH.dst (Oy c o)) w->Q (.panic eT) a w:=by exact fun _ _ _ h=>h)
  (ab:Region.noSelect bf=true:=by kernel_rfl) (aF:Region.free b0 bf listed i=true:=by kernel_rfl) (aa:(Region.ready b0 bf listed).contains i=true:=by kernel_rfl)
  (jP:i≠b:=by decide) (hy:YieldsIf P bf (fun _=>True) dH (Oy c o) a:=by exact Or.inl ⟨by kernel_rfl,fun _ _=>by go_simp⟩):Qq P b0 bf Q S b (n+1) listed a w:=
 uh i _ g5 h az hG ab aF aa jP hy
def uk (i:Nat){v:Ot}{c o:Nat}(F:w0.cell? (N9 c o)=some v)(g5:Oo w0 w)
  (h:Qq P b0 bf Q (fun X=>Oo w0 X) b n (listed.setIfInBounds i true) (a.put dH.dst v) w) (az:bf[i]? = some dH:=by rfl) (hG:∀ c a w,Q (.panic c) (a.put dH.dst v) w->Q (.panic c) a w:=by exact fun _ _ _ h=>h)
  (ab:Region.noSelect bf=true:=by kernel_rfl) (aF:Region.free b0 bf listed i=true:=by kernel_rfl) (aa:(Region.ready b0 bf listed).contains i=true:=by kernel_rfl)
  (jP:i≠b:=by decide) (hw:afC b0 bf bf.size b i=true:=by kernel_rfl) (dE:ZP b0 bf listed=true:=by kernel_rfl) (fd:listed.getD b false=false:=by kernel_rfl)
  (E:Region.wanted dH (yielded bf a.tmps)=true:=by kernel_rfl) (hy:∀ X:Og,X.cell? (N9 c o)=some v->(execOp a.eval dH).run P X=.ok (.value v) X:=by intro X h0;go_simp):Qq P b0 bf Q (fun X=>Oo w0 X) b (n+1) listed a w:=
 uc i v az (Or.inl ⟨E,fun X ak=>hy X (OT ak F)⟩) g5 h hG ab aF aa jP hw dE fd
def uk3 (i:Nat){v0 v1 v2:Ot}{c:Nat}{R:Prop}(F:w0.cell? (N9 c 0)=some v0/\w0.cell? (N9 c 1)=some v1/\w0.cell? (N9 c 2)=some v2/\R)(g5:Oo w0 w)
  (h:Qq P b0 bf Q (fun X=>Oo w0 X) b n (listed.setIfInBounds i true) (a.put dH.dst (.agg #[v0,v1,v2])) w) (az:bf[i]? = some dH:=by rfl) (hG:∀ c a w,Q (.panic c) (a.put dH.dst (.agg #[v0,v1,v2])) w->Q (.panic c) a w:=by exact fun _ _ _ h=>h)
  (ab:Region.noSelect bf=true:=by kernel_rfl) (aF:Region.free b0 bf listed i=true:=by kernel_rfl) (aa:(Region.ready b0 bf listed).contains i=true:=by kernel_rfl)
  (jP:i≠b:=by decide) (hw:afC b0 bf bf.size b i=true:=by kernel_rfl) (dE:ZP b0 bf listed=true:=by kernel_rfl) (fd:listed.getD b false=false:=by kernel_rfl)
  (E:Region.wanted dH (yielded bf a.tmps)=true:=by kernel_rfl) (hy:∀ X:Og,X.cell? (N9 c 0)=some v0->X.cell? (N9 c 1)=some v1->X.cell? (N9 c 2)=some v2->(execOp a.eval dH).run P X=.ok (.value (.agg #[v0,v1,v2])) X:=by intro X h0 h1 U;go_simp):Qq P b0 bf Q (fun X=>Oo w0 X) b (n+1) listed a w:=
 uc i _ az (Or.inl ⟨E,fun X ak=>hy X (OT ak F.1) (OT ak F.2.1) (OT ak F.2.2.1)⟩) g5 h hG ab aF aa jP hw dE fd
def uk4 (i:Nat){v0 v1 v2 v3:Ot}{c:Nat}{R:Prop}(F:w0.cell? (N9 c 0)=some v0/\w0.cell? (N9 c 1)=some v1/\w0.cell? (N9 c 2)=some v2/\w0.cell? (N9 c 3)=some v3/\R)(g5:Oo w0 w)
  (h:Qq P b0 bf Q (fun X=>Oo w0 X) b n (listed.setIfInBounds i true) (a.put dH.dst (.agg #[v0,v1,v2,v3])) w) (az:bf[i]? = some dH:=by rfl) (hG:∀ c a w,Q (.panic c) (a.put dH.dst (.agg #[v0,v1,v2,v3])) w->Q (.panic c) a w:=by exact fun _ _ _ h=>h)
  (ab:Region.noSelect bf=true:=by kernel_rfl) (aF:Region.free b0 bf listed i=true:=by kernel_rfl) (aa:(Region.ready b0 bf listed).contains i=true:=by kernel_rfl)
  (jP:i≠b:=by decide) (hw:afC b0 bf bf.size b i=true:=by kernel_rfl) (dE:ZP b0 bf listed=true:=by kernel_rfl) (fd:listed.getD b false=false:=by kernel_rfl)
  (E:Region.wanted dH (yielded bf a.tmps)=true:=by kernel_rfl) (hy:∀ X:Og,X.cell? (N9 c 0)=some v0->X.cell? (N9 c 1)=some v1->X.cell? (N9 c 2)=some v2->X.cell? (N9 c 3)=some v3->(execOp a.eval dH).run P X=.ok (.value (.agg #[v0,v1,v2,v3])) X:=by intro X h0 h1 U av;go_simp):Qq P b0 bf Q (fun X=>Oo w0 X) b (n+1) listed a w:=
 uc i _ az (Or.inl ⟨E,fun X ak=>hy X (OT ak F.1) (OT ak F.2.1) (OT ak F.2.2.1) (OT ak F.2.2.2.1)⟩) g5 h hG ab aF aa jP hw dE fd
def S9 {id:Nat}(b:Nat)(h:Oo w w.drew->Qq P .any bf Q (fun X=>Oo w X) b bf.size (Array.replicate bf.size false) a w.drew)(aR:P.follows .mixedOrders=true:=by kernel_rfl):(Code.region id bf true).wp P Q a w:=
 Qs b _ aR (h QI.drew)
def RY (h:Q .normal a w)(n:Nat)(aa:Region.ready b0 bf listed=[]:=by kernel_rfl):Qq P b0 bf Q S b n listed a w:=aFP aa h n
def ko {K:Act->Og->Prop}{X:Act->Og->Prop}(D:Shut (∀ a w,(listed.getD b false=false->S w)->X a w->K a w))(h:X a w)(A:listed.getD b false=true:=by kernel_rfl):K a w:=
 D.out a w (fun e=>by rw[A] at e;cases e) h
end
inductive Rk (cW di:Ou->Prop) (dh:Int->Prop):Nat->Tr->Prop
 | name {s} (h:cW s):Rk cW di dh 0 (.mk 23 s 0 [])
 | str {s} (h:di s):Rk cW di dh 0 (.mk 18 s 0 [])
 | num {n} (h:dh n):Rk cW di dh 0 (.mk 17 Oh n [])
 | lit {kd} (E:kd=19\/kd=20\/kd=21\/kd=22):Rk cW di dh 0 (.mk kd Oh 0 [])
 | anG {s t} (h:cW s) (aZ:Rk cW di dh 0 t):Rk cW di dh 0 (.mk 36 s 0 [t])
 | call {t ap} (aZ:Rk cW di dh 0 t) (ab:∀ u ∈ ap,Rk cW di dh 0 u) (hl:ap.length<=8):Rk cW di dh 0 (.mk 35 Oh 0 (t::ap))
 | one {kd t} (E:kd=32\/kd=33\/kd=34) (aZ:Rk cW di dh 0 t):Rk cW di dh 0 (.mk kd Oh 0 [t])
 | two {kd a b} (E:25<=kd/\kd<=31) (ay:Rk cW di dh 0 a) (A:Rk cW di dh 0 b):Rk cW di dh 0 (.mk kd Oh 0 [a,b])
 | Zj {a b} (E:a.kd=23\/a.kd=36) (ay:Rk cW di dh 0 a) (A:Rk cW di dh 0 b):Rk cW di dh 0 (.mk 24 Oh 0 [a,b])
 | obj {ps} (ab:∀ u ∈ ps,Rk cW di dh 2 u) (hl:ps.length<=8):Rk cW di dh 0 (.mk 38 Oh 0 ps)
 | lam {s p b} (h:s=Oh\/cW s) (al:Rk cW di dh 5 p) (A:Rk cW di dh 4 b):Rk cW di dh 0 (.mk 37 s 0 [p,b])
 | prop {s v} (h:cW s) (am:Rk cW di dh 0 v):Rk cW di dh 2 (.mk 39 s 0 [v])
 | par {s} (h:cW s):Rk cW di dh 6 (.mk 23 s 0 [])
 | aly {ps} (ab:∀ u ∈ ps,Rk cW di dh 6 u) (hl:ps.length<=8):Rk cW di dh 5 (.mk 40 Oh 0 ps)
 | blk {ap} (ab:∀ u ∈ ap,Rk cW di dh 1 u):Rk cW di dh 3 (.mk 6 Oh 0 ap)
 | body {tx ap} (aZ:tx=Oh\/tx=TF) (ab:∀ u ∈ ap,Rk cW di dh 1 u):Rk cW di dh 4 (.mk 6 tx 0 ap)
 | decl {kd s v} (E:kd=2\/kd=3\/kd=4) (h:cW s) (am:∀ u ∈ v,Rk cW di dh 0 u) (hl:v.length<=1) (ai:kd=4->v.length=1):Rk cW di dh 1 (.mk kd s 0 v)
 | func {s p b} (h:cW s) (al:Rk cW di dh 5 p) (A:Rk cW di dh 4 b):Rk cW di dh 1 (.mk 5 s 0 [p,b])
 | ah7 {t} (h:Rk cW di dh 3 t):Rk cW di dh 1 t
 | sif {v s} (am:Rk cW di dh 0 v) (ab:Rk cW di dh 1 s):Rk cW di dh 1 (.mk 7 Oh 0 [v,s])
 | arF {v s e} (am:Rk cW di dh 0 v) (ab:Rk cW di dh 1 s) (ao:Rk cW di dh 1 e):Rk cW di dh 1 (.mk 7 Oh 0 [v,s,e])
 | loop {kd v s} (E:kd=8\/kd=9) (am:Rk cW di dh 0 v) (ab:Rk cW di dh 1 s):Rk cW di dh 1 (.mk kd Oh 0 [v,s])
 | give {kd v} (E:kd=10\/kd=11) (am:∀ u ∈ v,Rk cW di dh 0 u) (hl:v.length<=1) (ai:kd=11->v.length=1):Rk cW di dh 1 (.mk kd Oh 0 v)
 | atm {b c f} (A:Rk cW di dh 3 b) (ai:∀ u ∈ c,Rk cW di dh 7 u) (aF:∀ u ∈ f,Rk cW di dh 8 u) (hl:c.length<=1/\f.length<=1/\0<c.length+f.length):Rk cW di dh 1 (.mk 12 Oh 0 (b::(c++f)))
 | cat {s b} (h:cW s) (A:Rk cW di dh 3 b):Rk cW di dh 7 (.mk 13 s 0 [b])
 | fin {b} (A:Rk cW di dh 3 b):Rk cW di dh 8 (.mk 14 Oh 0 [b])
 | empty:Rk cW di dh 1 (.mk 16 Oh 0 [])
 | expr {v} (am:Rk cW di dh 0 v):Rk cW di dh 1 (.mk 15 Oh 0 [v])
 | prog {tx ap} (aZ:tx=Oh\/tx=TF) (ab:∀ u ∈ ap,Rk cW di dh 1 u):Rk cW di dh 9 (.mk 1 tx 0 ap)
def ahT (kd:Int)(n:Int)(ap:List Tr):∃ tx,(tx=Oh\/tx=TF)/\U0 (.mk kd Oh n ap)=.mk kd tx n ap:=by
 unfold U0
 split
 ·rename_i h;cases h;split
  ·exact⟨_,Or.inr rfl,rfl⟩
  ·exact⟨_,Or.inl rfl,rfl⟩
 ·exact⟨_,Or.inl rfl,rfl⟩
def Rk.ayO {cW di:Ou->Prop}{dh:Int->Prop}{t:Tr}(h:Rk cW di dh 3 t):Rk cW di dh 4 (U0 t):=by
 cases h with
 | blk ab=>obtain⟨tx,h1,U⟩:=ahT 6 0 _;rw[U];exact .body h1 ab
def Xw {k:Int}{x:Ou}{s:Sg}(h:ZQ k x=some s):s ∈ sgs/\s.parts=k:=by
 unfold ZQ at h;have h1:=Option.filter_eq_some_iff.1 h;exact⟨List.mem_of_find?_eq_some h1.1,by simpa using h1.2⟩
def acO (q:Nat)(k:Int):Bool:=match q with
 | 0=>k==2||k==3||k==4
 | 4=>k==7
 | 5=>k==8||k==9
 | 6=>k==10||k==11
 | _=>true
section
variable {l:List Tk}
def NmL (l:List Tk)(s:Ou):Prop:=∃ i,(OX l i).kd=1/\(OX l i).tx=s
def TxL (l:List Tk)(s:Ou):Prop:=∃ i,(OX l i).tx=s
def NnL (l:List Tk)(n:Int):Prop:=∃ i,(OX l i).n=n
def Wx {i j:Nat}{s:Ou}(h:nameP l i=.ok s j):NmL l s:=by
 unfold nameP at h
 split at h
 ·rename_i h1;cases h;exact⟨i,h1,rfl⟩
 ·
  cases h
def ayP {q i:Nat}(h:QC Un (fx l i)=some q):acO q (Ql (OX l i).tx)=true:=by
 unfold QC at h
 cases aF:Un.find? (fun e=>decide (fx l i=e.1)) with
 | none=>rw[aF] at h;cases h
 | some e=>
  rw[aF] at h;have h1:=List.mem_of_find?_eq_some aF;have U:fx l i=e.1:=by simpa using List.find?_some aF
  have av:∀ e ∈ Un,acO e.2 (Ql e.1)=true/\e.1≠Oh:=by decide +kernel
  have aN:(OX l i).tx=e.1:=by
   unfold fx at U
   split at U
   ·exact U
   ·exact absurd U.symm (av e h1).2
  cases h;rw[aN];exact(av e h1).1
abbrev Kh (l:List Tk)(c:Nat)(r:PR Tr):Prop:=∀ t j,r=.ok t j->Rk (NmL l) (TxL l) (NnL l) c t
def Um {c:Nat}{f:Nat->Nat->PR Tr}{d i:Nat}(h:Kh l c (f (d+1) i)):Kh l c (Pn l f d i):=by
 unfold Pn
 split
 ·intro t j e;cases e
 ·exact h
def ak3 {P:Tr->Prop}{aX:List Tr}{u:Tr}(ay:∀ x ∈ aX,P x)(aQ:P u):∀ x ∈ aX++[u],P x:=by
 intro x ac
 rcases List.mem_append.1 ac with h|h
 ·exact ay x h
 ·rw[List.mem_singleton.1 h];exact aQ
def ahW {c:Nat}{shut:Ou}{begins:Nat->Bool}{part:Nat->PR Tr}(A:∀ i t j,part i=.ok t j->begins i=true)(al:∀ i,Kh l c (part i)):∀ k aX i t j,(∀ x ∈ aX,Rk (NmL l) (TxL l) (NnL l) c x)->aX.length<=8->Rx l shut begins part k aX i=.ok t j->(∀ x ∈ t,Rk (NmL l) (TxL l) (NnL l) c x)/\t.length<=8:=by
 intro k
 induction k with
 | zero=>intro aX i t j _ _ h;cases h
 | succ k bv=>
  intro aX i t j ay hl h;unfold Rx at h
  split at h
  ·
   cases h
  ·rename_i ax
   have⟨u,a8,h1,h⟩:=binds h;have aQ:=ak3 ay (al i u a8 h1);have f8:(aX++[u]).length<=8:=by
    have:aX.length≠8:=fun e=>ax ⟨e,A _ _ _ h1⟩;simp;omega
   split at h
   ·
    cases h;exact⟨aQ,f8⟩
   ·have⟨_,i2,U,h⟩:=binds h;exact bv _ _ _ _ aQ f8 h
def afD {c:Nat}{opn shut:Ou}{begins:Nat->Bool}{part:Nat->PR Tr}(A:∀ i t j,part i=.ok t j->begins i=true)(al:∀ i,Kh l c (part i)){k i j:Nat}{t:List Tr}(h:Vm l opn shut begins part k i=.ok t j):(∀ x ∈ t,Rk (NmL l) (TxL l) (NnL l) c x)/\t.length<=8:=by
 unfold Vm at h;have⟨_,a8,h1,h⟩:=binds h
 split at h
 ·
  cases h;exact⟨fun _ h=>(by cases h),by simp⟩
 ·exact ahW A al _ _ _ _ _ (fun _ h=>by cases h) OW h
def aaK {i j:Nat}{s:Ou}(h:nameP l i=.ok s j):isName l i=true:=by
 unfold nameP at h
 split at h
 ·rename_i h1;unfold isName;rw[h1];rfl
 ·
  cases h
structure FKh (l:List Tk)(F:Sv):Prop where
 st:∀ d i,Kh l 1 (F.st d i)
 vl:∀ d i,Kh l 0 (F.vl d i)
 pr:∀ b d i,Kh l 0 (F.pr b d i)
 sg:∀ d i,Kh l 0 (F.sg d i)
 bg:∀ d i t j,F.vl d i=.ok t j->isVal l i=true
 bp:∀ b d i t j,F.pr b d i=.ok t j->isVal l i=true
 bs:∀ d i t j,F.sg d i=.ok t j->isVal l i=true
variable {F:Sv} (ah:FKh l F)
include ah
def afE {d:Nat}:∀ k aX i t j,(∀ x ∈ aX,Rk (NmL l) (TxL l) (NnL l) 1 x)->P8 l F d k aX i=.ok t j->∀ x ∈ t,Rk (NmL l) (TxL l) (NnL l) 1 x:=by
 intro k
 induction k with
 | zero=>intro aX i t j _ h;cases h
 | succ k bv=>
  intro aX i t j ay h;unfold P8 at h;exact aD2
def Yl {d i:Nat}:Kh l 3 (PV l F d i):=by
 intro t j h;unfold PV at h;have⟨_,a8,h1,h⟩:=binds h;have⟨ap,i2,U,h⟩:=binds h;cases h;exact .blk (afE ah _ _ _ _ _ (fun _ h=>by cases h) U)
omit ah in
theorem am9 {i:Nat}:Kh l 5 (Ry l F i):=by
 intro t j h;unfold Ry at h;have⟨ap,a8,h1,h⟩:=binds h;cases h;have:=afD (c:=6) (fun i t j h=>by unfold TQ at h;have⟨_,_,h1,_⟩:=binds h;exact aaK h1) (fun i t j h=>by unfold TQ at h;have⟨_,_,h1,h⟩:=binds h;cases h;exact .par (Wx h1)) h1
 exact .aly this.1 this.2
def acP (d i:Nat):Kh l 0 (Tj l F d i):=by
 intro t j h;unfold Tj at h;have⟨_,a8,h1,h⟩:=binds h;have⟨u,i2,U,h⟩:=binds h;have⟨_,i3,av,h⟩:=binds h;cases h;exact Um (ah.vl _ _) _ _ U
def ana (d i:Nat):Kh l 0 (Uh l F d i):=by
 intro t j h;unfold Uh at h;have⟨ap,a8,h1,h⟩:=binds h;cases h;have:=afD (c:=2) (fun i t j h=>by unfold VI at h;have⟨_,_,h1,_⟩:=binds h;exact aaK h1) (fun i t j h=>by
  unfold VI at h;have⟨_,_,h1,h⟩:=binds h;have⟨_,_,_,h⟩:=binds h;have⟨_,_,av,h⟩:=binds h;cases h;exact .prop (Wx h1) (Um (ah.vl _ _) _ _ av)) h1
 exact .obj this.1 this.2
def afF {kd:Int}{s:Ou}{d i j:Nat}{t:Tr}(h:QV l F kd s d i=.ok t j):∃ p b,t=.mk kd s 0 [p,b]/\Rk (NmL l) (TxL l) (NnL l) 5 p/\Rk (NmL l) (TxL l) (NnL l) 4 b:=by
 unfold QV at h;have⟨ps,a8,h1,h⟩:=binds h;have⟨b,i2,U,h⟩:=binds h;cases h;exact⟨_,_,rfl,am9 _ _ h1,(Yl ah _ _ U).ayO⟩
def anb (d i:Nat):Kh l 0 (Ui l F d i):=by
 intro t j h;unfold Ui at h;have⟨_,a8,h1,h⟩:=binds h
 split at h
 ·have⟨s,i2,U,h⟩:=binds h;obtain⟨p,b,rfl,al,A⟩:=afF ah h;exact .lam (Or.inr (Wx U)) al A
 ·obtain⟨p,b,rfl,al,A⟩:=afF ah h;exact .lam (Or.inl rfl) al A
def aqZ (d i:Nat):Kh l 0 (Ur l F d i):=by
 unfold Ur
 split
 ·exact acP ah d i
 ·exact ana ah d i
 ·exact anb ah d i
 ·split
  ·rename_i e6;intro t j h;cases h
   have U:∀ s ∈ sgs,s.parts=0->s.kd=19\/s.kd=20\/s.kd=21\/s.kd=22:=by decide +kernel
   exact .lit (U _ (Xw e6).1 (Xw e6).2)
  ·split
   ·rename_i h1;intro t j h;cases h;exact .name ⟨i,h1,rfl⟩
   ·split
    ·intro t j h;cases h;exact .str ⟨i,rfl⟩
    ·split
     ·intro t j h;cases h;exact .num ⟨i,rfl⟩
     ·intro t j h;cases h
omit ah in
theorem aq0 {d i j:Nat}{t:Tr}(h:Ur l F d i=.ok t j):isVal l i=true:=by
 unfold isVal;unfold Ur at h
 cases E:QC SE (fx l i) with
 | some q=>simp
 | none=>
  rw[E] at h;simp only at h
  cases ab:ZQ 0 (fx l i) with
  | some s=>
   have z:=N8 (∀{G}(h:G:=by
   rw[av];simp),G);exact aEK
  | none=>
   rw[ab] at h;simp only at h
   split at h
   ·rename_i h1;simp[h1]
   ·split at h
    ·rename_i h1;simp[h1]
    ·split at h
     ·rename_i h1;simp[h1]
     ·
      cases h
def afG {d:Nat}:∀ k u i t j,Rk (NmL l) (TxL l) (NnL l) 0 u->QJ l F d k u i=.ok t j->Rk (NmL l) (TxL l) (NnL l) 0 t:=by
 intro k
 induction k with
 | zero=>intro u i t j _ h;cases h
 | succ k bv=>
  intro u i t j aQ h;unfold QJ at h
  split at h
  ·have⟨s,a8,h1,h⟩:=binds h;exact bv _ _ _ _ (.anG (Wx h1) aQ) h
  ·split at h
   ·have⟨ap,a8,h1,h⟩:=binds h;have:=afD (c:=0) (fun i t j h=>by
     unfold Pn at h
     split at h
     ·
      cases h
     ·exact ah.bg _ _ _ _ h) (fun i=>Um (ah.vl _ _)) h1
    exact bv _ _ _ _ (.call aQ this.1 this.2) h
   ·
    cases h;exact aQ
def anc (d i:Nat):Kh l 0 (SH l F d i):=by
 unfold SH
 split
 ·rename_i e6
  intro t j h;have⟨u,a8,h1,h⟩:=binds h;cases h;have U:∀ s ∈ sgs,s.parts=1->s.kd=32\/s.kd=33\/s.kd=34:=by decide +kernel
  exact .one (U _ (Xw e6).1 (Xw e6).2) (Um (ah.sg _ _) u _ h1)
 ·intro t j h;unfold TS at h;have⟨u,a8,h1,h⟩:=binds h;exact afG ah _ _ _ _ _ (aqZ ah d i u a8 h1) h
omit ah in
theorem ane (d i:Nat)(t:Tr)(j:Nat)(h:SH l F d i=.ok t j):isVal l i=true:=by
 unfold SH at h
 cases ab:ZQ 1 (fx l i) with
 | some s=>
  have z:=N8 (∀{G}(h:G:=by
  unfold isVal;rw[av];simp),G);exact aEK
 | none=>
  rw[ab] at h;simp only at h;unfold TS at h;have⟨u,a8,h1,_⟩:=binds h;exact aq0 h1
def ahX {b:Int}{d:Nat}:∀ k u i t j,Rk (NmL l) (TxL l) (NnL l) 0 u->RQ l F b d k u i=.ok t j->Rk (NmL l) (TxL l) (NnL l) 0 t:=by
 intro k
 induction k with
 | zero=>intro u i t j _ h;cases h
 | succ k bv=>
  intro u i t j aQ h;unfold RQ at h
  split at h
  ·
   cases h;exact aQ
  ·rename_i e6
   split at h
   ·
    cases h;exact aQ
   ·have⟨v,a8,h1,h⟩:=binds h;have U:∀ s ∈ sgs,s.parts=2->25<=s.kd/\s.kd<=31:=by decide +kernel
    exact bv _ _ _ _ (.two (U _ (Xw e6).1 (Xw e6).2) aQ (ah.pr _ _ _ v a8 h1)) h
def auC (b:Int)(d i:Nat):Kh l 0 (Wj l F b d i):=by
 intro t j h;unfold Wj at h;have⟨u,a8,h1,h⟩:=binds h;exact ahX ah _ _ _ _ _ (ah.sg _ _ u a8 h1) h
def aq1 (d i:Nat):Kh l 0 (UG l F d i):=by
 intro t j h;unfold UG at h;have⟨u,a8,h1,h⟩:=binds h;have aw:=ah.pr _ _ _ u a8 h1
 split at h
 ·split at h
  ·rename_i E
   have⟨v,i2,U,h⟩:=binds h;cases h;exact .Zj E aw (Um (ah.vl _ _) v _ U)
  ·
   cases h
 ·
  cases h;exact aw
def auD (d q i:Nat)(ag:acO q (Ql (OX l i).tx)=true):Kh l 1 (XC l F d q i):=by
 intro t j h;unfold XC at h
 split at h
 ·have E:Ql (OX l i).tx=2\/Ql (OX l i).tx=3\/Ql (OX l i).tx=4:=by simpa[acO,or_assoc] using ag
  unfold XW at h;have⟨s,a8,h1,h⟩:=binds h
  split at h
  ·
   cases h
  ·rename_i ax
   split at h
   ·have⟨v,i2,U,h⟩:=binds h;have⟨_,i3,av,h⟩:=binds h;cases h;have bi:=Um (ah.vl _ _) v _ U;exact .decl E (Wx h1) (fun u aQ=>by rw[List.mem_singleton.1 aQ];exact bi) OW OW
   ·rename_i ac
    have⟨_,i3,av,h⟩:=binds h;cases h;exact .decl E (Wx h1) (fun u aQ=>by cases aQ) OW (fun e=>absurd ⟨e,ac⟩ ax)
 ·unfold XB at h;have⟨_,a8,h1,h⟩:=binds h;have⟨s,i2,U,h⟩:=binds h;obtain⟨p,b,rfl,al,A⟩:=afF ah h;exact .func (Wx U) al A
 ·exact .ah7 (Yl ah _ _ h)
 ·have⟨_,i3,av,h⟩:=binds h;cases h;exact .empty
 ·have E:Ql (OX l i).tx=7:=by simpa[acO] using ag
  unfold Uj at h;rw[E] at h;have⟨v,a8,h1,h⟩:=binds h;have⟨s,i2,U,h⟩:=binds h;have aw:=acP ah d _ v a8 h1;have bi:=Um (ah.st _ _) s _ U
  split at h
  ·have⟨s2,i3,av,h⟩:=binds h;cases h;exact .arF aw bi (Um (ah.st _ _) s2 _ av)
  ·
   cases h;exact .sif aw bi
 ·have E:Ql (OX l i).tx=8\/Ql (OX l i).tx=9:=by simpa[acO] using ag
  unfold RI at h;have⟨v,a8,h1,h⟩:=binds h;have⟨s,i2,U,h⟩:=binds h;cases h;exact .loop E (acP ah d _ v a8 h1) (Um (ah.st _ _) s _ U)
 ·have E:Ql (OX l i).tx=10\/Ql (OX l i).tx=11:=by simpa[acO] using ag
  unfold UH at h
  split at h
  ·have⟨v,a8,h1,h⟩:=binds h;have⟨_,i2,U,h⟩:=binds h;cases h;have aw:=Um (ah.vl _ _) v _ h1;exact .give E (fun u aQ=>by rw[List.mem_singleton.1 aQ];exact aw) OW OW
  ·rename_i ax
   have⟨_,i2,U,h⟩:=binds h;cases h;exact .give E (fun u aQ=>by cases aQ) OW (fun e=>absurd (Or.inl e) ax)
 ·have z:=N8 (∀{G}(h:G:=by
  have bi:(∀ u ∈ c,Rk (NmL l) (TxL l) (NnL l) 7 u)/\c.length<=1:=by
   unfold Xh at U
   split at U
   ·have⟨_,bP,bK,U⟩:=binds U;have⟨_,de,cX,U⟩:=binds U;have⟨_,g8,dV,U⟩:=binds U;have⟨j5,k4,m8,U⟩:=binds U;cases U;exact⟨fun u aQ=>by rw[List.mem_singleton.1 aQ];exact .cat (Wx cX) (Yl ah _ _ m8),by simp⟩
   ·
    cases U;exact⟨fun u aQ=>(by cases aQ),by simp⟩
  have d4:(∀ u ∈ f,Rk (NmL l) (TxL l) (NnL l) 8 u)/\f.length<=1:=by
   unfold TW at av
   split at av
   ·have⟨j5,k4,m8,av⟩:=binds av;cases av;exact⟨fun u aQ=>by rw[List.mem_singleton.1 aQ];exact .fin (Yl ah _ _ m8),by simp⟩
   ·
    cases av;exact⟨fun u aQ=>(by cases aQ),by simp⟩
  split at h
  ·
   cases h
  ·rename_i ax
   cases h;exact .atm (Yl ah _ _ h1) bi.1 d4.1 ⟨bi.2,d4.2,by omega⟩),G);exact azZ
def afH (d i:Nat):Kh l 1 (Qo l F d i):=by
 unfold Qo
 split
 ·rename_i ag;exact auD ah d _ i (ayP ag)
 ·intro t j h;unfold XY at h;have⟨v,a8,h1,h⟩:=binds h;have⟨_,i2,U,h⟩:=binds h;cases h;exact .expr (Um (ah.vl _ _) v _ h1)
omit ah in
theorem ayQ:∀ k,FKh l (fns l k):=by
 intro k
 induction k with
 | zero=>exact⟨fun _ _ _ _ h=>by (cases h),fun _ _ _ _ h=>by (cases h),fun _ _ _ _ _ h=>by (cases h),fun _ _ _ _ h=>by (cases h),fun _ _ _ _ h=>by (cases h),fun _ _ _ _ _ h=>by (cases h),fun _ _ _ _ h=>by (cases h)⟩
 | succ k bv=>exact⟨afH bv,aq1 bv,auC bv,anc bv,fun d i t j h=>by
   change UG l (fns l k) d i=_ at h;unfold UG at h;have⟨u,a8,h1,_⟩:=binds h;exact bv.bp _ _ _ _ _ h1,fun b d i t j h=>by
   change Wj l (fns l k) b d i=_ at h;unfold Wj at h;have⟨u,a8,h1,_⟩:=binds h;exact bv.bs _ _ _ _ h1,ane⟩
def ahY:∀ k aX i t j,(∀ x ∈ aX,Rk (NmL l) (TxL l) (NnL l) 1 x)->Qi l F k aX i=.ok t j->∀ x ∈ t,Rk (NmL l) (TxL l) (NnL l) 1 x:=by
 intro k
 induction k with
 | zero=>intro aX i t j _ h;cases h
 | succ k bv=>
  intro aX i t j ay h;unfold Qi at h;exact aD2
def auE:Kh l 9 (UJ l F):=by
 intro t j h;unfold UJ at h;have⟨ap,a8,h1,h⟩:=binds h;cases h;have⟨tx,U,av⟩:=ahT 1 0 ap;rw[av];exact .prog U (ahY ah _ _ _ _ _ (fun _ h=>by cases h) h1)
end
def af0 {aY signs:List Ou}{s:Ou}{t:Tr}(h:Qu aY signs s=.ok t):∃ l,Q7 aY signs s (OC PU s 0) []=.ok l/\Rk (NmL l) (TxL l) (NnL l) 9 t:=by
 unfold Qu at h
 split at h
 ·
  cases h
 ·split at h
  ·
   cases h
  ·rename_i l hl
   refine⟨l,hl,?_⟩
   cases al:UJ l (fns l KK) with
   | out=>rw[al] at h;cases h
   | bad er p=>rw[al] at h;cases h
   | ok t2 j=>
    rw[al] at h;simp only at h
    split at h
    ·
     cases h
    ·
     cases h;exact auE (ayQ _) _ _ al
def need (kd:Int):Nat:=if kd=5\/kd=37\/kd=9 then 2 else if kd=13\/kd=24\/kd=34\/kd=35 then 1 else 0
def ar (kd:Int)(n:Nat):Nat:=if need kd<=n then 0 else 1
mutual
def Tr.ill:Tr->Nat
 | .mk kd _ _ ks=>ar kd ks.length+Tr.ac2 ks
def Tr.ac2:List Tr->Nat
 | []=>0
 | t::ap=>t.ill+Tr.ac2 ap
end
def Ut (kd:Int)(tx:Ou)(n:Int)(ks:List Tr):(Tr.mk kd tx n ks).ill=ar kd ks.length+Tr.ac2 ks:=by rw[Tr.ill]
def aoa (kd:Int):need kd<=2:=by
 unfold need
 split
 ·omega
 ·split <;> omega
def avJ (kd:Int)(n:Nat)(h:2<=n):ar kd n=0:=by
 unfold ar;rw[if_pos (Nat.le_trans (aoa kd) h)]
def WR:Tr.ac2 []=0:=by rw[Tr.ac2]
def SA (t:Tr)(ap:List Tr):Tr.ac2 (t::ap)=t.ill+Tr.ac2 ap:=by rw[Tr.ac2]
def agl:∀ (ks:List Tr),Tr.ac2 ks=0->∀ k ∈ ks,k.ill=0
 | [],_=>fun k E=>absurd E OW
 | t::ap,h=>fun k E=>by
  rw[SA] at h
  rcases List.mem_cons.1 E with rfl|E
  ·omega
  ·exact agl ap Oe k E
def abt (t:Tr)(h:t.ill=0):need t.kd<=t.kids.length/\∀ k ∈ t.kids,k.ill=0:=by
 cases t with
 | mk kd tx n ks=>
  rw[Ut] at h;refine⟨?_,agl ks Oe⟩;have h1:ar kd ks.length=0:=Oe;unfold ar at h1
  split at h1
  ·assumption
  ·omega
def SC:∀ ap:List Tr,(∀ u ∈ ap,u.ill=0)->Tr.ac2 ap=0
 | [],_=>WR
 | t::ap,h=>by rw[SA,h t (List.mem_cons_self ..),SC ap (fun u aQ=>h u (List.mem_cons_of_mem _ aQ))]
def Rk.ill {cW di:Ou->Prop}{dh:Int->Prop}{c:Nat}{t:Tr}(h:Rk cW di dh c t):t.ill=0:=by
 induction h with
 | ah7 _ bv=>exact bv
 | call _ _ _ bv l5=>rw[Ut,SA,bv,SC _ l5];rfl
 | decl E _ _ _ _ l5=>rw[Ut,SC _ l5];rcases E with rfl|rfl|rfl <;> simp[ar,need]
 | give E _ _ _ l5=>rw[Ut,SC _ l5];rcases E with rfl|rfl <;> simp[ar,need]
 | atm _ _ _ _ bv JK JL=>
  rw[Ut,SA,bv,SC _ (fun u aQ=>(List.mem_append.1 aQ).elim (JK u) (JL u))];simp[ar,need]
 | obj _ _ l5=>rw[Ut,SC _ l5];simp[ar,need]
 | aly _ _ l5=>rw[Ut,SC _ l5];simp[ar,need]
 | blk _ l5=>rw[Ut,SC _ l5];simp[ar,need]
 | body _ _ l5=>rw[Ut,SC _ l5];simp[ar,need]
 | prog _ _ l5=>rw[Ut,SC _ l5];simp[ar,need]
 | lit E=>rw[Ut,WR];rcases E with rfl|rfl|rfl|rfl <;> simp[ar,need]
 | one E _ bv=>rw[Ut,SA,WR,bv];rcases E with rfl|rfl|rfl <;> simp[ar,need]
 | two E _ _ bv Bw=>rw[Ut,SA,SA,WR,bv,Bw,avJ _ _ OW]
 | loop E _ _ bv Bw=>rw[Ut,SA,SA,WR,bv,Bw];rcases E with rfl|rfl <;> simp[ar,need]
 | _=>simp[Ut,SA,WR,ar,need, *]
def adr {aY gs:List Ou}{s:Ou}{t:Tr}(h:Qu aY gs s=.ok t):t.ill=0:=by
 have⟨_,_,h⟩:=af0 h;exact h.ill
def wrT (t:Tr)(s i b:Bool):Option Int:=
 if t.kd=1 then scE t true
 else if t.kd=6 then scE t b
 else if t.kd=5\/t.kd=37 then fnE t s
 else if t.kd=2\/t.kd=3\/t.kd=4 then nmE s t.tx
 else if t.kd=13 then Xg t s
 else if t.kd=7\/t.kd=8\/t.kd=9 then brE t s
 else if t.kd=10 then (if i then none else some 6)
 else if t.kd=24 then (if (PZ t 0).kd=23 then nmE s (PZ t 0).tx else none)
 else if t.kd=34 then (if s&&(PZ t 0).kd==23 then some 1 else none)
 else none
section
variable (t:Tr) (p:Nat) (s i b:Bool) (w:Og) (h:Ug w t p) (ai:t.count<=20000)
include h ai
def aGe (bm:t.kd=1):Oq 104 #[N7 p,XP s i b] w fun e w'=>e=OA (Ve (scE t true))/\Oo w w':=by
 have z:=N8 (∀{G}(h:G:=by
 have aj:=(XQ t p true ek wo ai);have h0:=kx.c0;have h1:=kx.c1;have U:=kx.c2
 generalize scE t true=er at aj
 exact anJ),G);exact zsq
def aGf (bm:t.kd=6):Oq 104 #[N7 p,XP s i b] w fun e w'=>e=OA (Ve (scE t b))/\Oo w w':=by
 have z:=N8 (∀{G}(h:G:=by
 have aj:=(XQ t p b ek wo ai);have h0:=kx.c0;have h1:=kx.c1;have U:=kx.c2
 generalize scE t b=er at aj
 exact anJ),G);exact zsq
def aGg (bm:t.kd=5)(E:2<=t.kids.length):Oq 104 #[N7 p,XP s i b] w fun e w'=>e=OA (Ve (fnE t s))/\Oo w w':=azB
def azC (bm:t.kd=37)(E:2<=t.kids.length):Oq 104 #[N7 p,XP s i b] w fun e w'=>e=OA (Ve (fnE t s))/\Oo w w':=azB
def azD (bm:t.kd=13)(E:1<=t.kids.length):Oq 104 #[N7 p,XP s i b] w fun e w'=>e=OA (Ve (Xg t s))/\Oo w w':=by
 have z:=N8 (∀{G}(h:G:=by
 have aj:=(abp t p s i b ek wo E ai);have h0:=kx.c0;have h1:=kx.c1;have U:=kx.c2
 generalize Xg t s=er at aj
 exact anJ),G);exact zsq
def aGh (bm:t.kd=7):Oq 104 #[N7 p,XP s i b] w fun e w'=>e=OA (Ve (brE t s))/\Oo w w':=avu
def aGi (bm:t.kd=8):Oq 104 #[N7 p,XP s i b] w fun e w'=>e=OA (Ve (brE t s))/\Oo w w':=avu
def aGj (bm:t.kd=9):Oq 104 #[N7 p,XP s i b] w fun e w'=>e=OA (Ve (brE t s))/\Oo w w':=avu
def aGk (bm:t.kd=2):Oq 104 #[N7 p,XP s i b] w fun e w'=>e=OA (Ve (nmE s t.tx))/\Oo w w':=avv
def aGl (bm:t.kd=3):Oq 104 #[N7 p,XP s i b] w fun e w'=>e=OA (Ve (nmE s t.tx))/\Oo w w':=avv
def aGm (bm:t.kd=4):Oq 104 #[N7 p,XP s i b] w fun e w'=>e=OA (Ve (nmE s t.tx))/\Oo w w':=avv
def azE (bm:t.kd=10):Oq 104 #[N7 p,XP s i b] w fun e w'=>e=OA (Ve (if i then none else some 6))/\Oo w w':=by
 have z:=N8 (∀{G}(h:G:=by
 have h1:=kx.c1;rw[il] at h1 hI;clear h ai gP cI bm c3 c1 il
 cases i <;>
 ·exact avw),G);exact zsq
def azF (bm:t.kd=24)(E:1<=t.kids.length):Oq 104 #[N7 p,XP s i b] w fun e w'=>e=OA (Ve (if (PZ t 0).kd=23 then nmE s (PZ t 0).tx else none))/\Oo w w':=by
 have z:=N8 (∀{G}(h:G:=by
 have jo:=hI;obtain⟨g,cap,q,rfl,hg,At,ik⟩:=aa.cell 0 Oe;rw[<-Xf t 0 Oe] at ik;obtain⟨ds,b9,bP,_⟩:=ik.cells;have k':=hide (fun W=>Vf s i b (PZ t 0).tx W);have e9:=hide (OT hI bP);have hpl2:=cell_lt e9.out
 generalize (PZ t 0).tx=tx at k' e9 bP
 generalize (PZ t 0).kd=j9 at b9
 generalize t.kids.length=L at c3 E cI
 generalize nmE s tx=er at k'
 clear h ai gP bm c1 bP
 by_cases ge:j9=23
 ·subst ge;simp only[if_true];have z:=N8 (∀{G}(h:G:=by
  refine wh 0 (N7 q) ae ?_;refine wh 1 (N7 q) ae ?_;refine wh 2 (Oy q 1) ae ?_;have z:=N8 (∀{G}(h:G:=by
  cases er <;>
  ·unfold Ve;go_wp2;go_ret;exact⟨rfl,jo.trans (f6.mono jo.size)⟩),G);exact azG),G);exact azH
 ·have Mm:(j9==23)=false:=by simpa using ge
  simp only[if_neg ge];rw[il] at jo;clear ge il;go_enter func104,ntmps104;go_wp2;go_ret;exact⟨rfl,jo⟩),G);exact zsq
def azI (bm:t.kd=34)(E:1<=t.kids.length):Oq 104 #[N7 p,XP s i b] w fun e w'=>e=OA (Ve (if s&&(PZ t 0).kd==23 then some 1 else none))/\Oo w w':=by
 have z:=N8 (∀{G}(h:G:=by
 obtain⟨g,cap,q,rfl,hg,At,ik⟩:=aa.cell 0 Oe;rw[<-Xf t 0 Oe] at ik;obtain⟨ds,b9,bP,_⟩:=ik.cells
 generalize (PZ t 0).tx=tx at bP
 generalize (PZ t 0).kd=j9 at b9
 generalize t.kids.length=L at c3 E cI
 have h0:=kx.c0;rw[il] at h0 hI;clear h ai gP bm c1 bP il
 cases s with
 | false=>
  exact avw
 | true=>
  cases ge:(j9==23) <;>
  ·exact avw),G);exact zsq
omit ai in
theorem wrE (gL:t.kd≠1/\t.kd≠6/\t.kd≠5/\t.kd≠37/\t.kd≠2/\t.kd≠3/\t.kd≠4/\t.kd≠13/\t.kd≠7/\t.kd≠8/\t.kd≠9/\t.kd≠10/\t.kd≠24/\t.kd≠34):Oq 104 #[N7 p,XP s i b] w fun e w'=>e=OA (Ve none)/\Oo w w':=by
 obtain⟨eM,c0,_,_⟩:=h.cells;have jo:=((Below.refl w.heap.size w).alloc Pg (.cells #[Om s,Om i,Om b] 112));clear h
 generalize t.kd=kd at c0 gL
 obtain⟨bT,o9,o8,yx,cY,hA,rQ,ER,o',rR,yy,yu,yv,yw⟩:=gL;have cO:(kd==1)=false:=by simpa using bT
 have Nn:(kd==6)=false:=by simpa using o9
 have Nm:(kd==5)=false:=by simpa using o8
 have Nj:(kd==37)=false:=by simpa using yx
 have cP:(kd==2)=false:=by simpa using cY
 have db:(kd==3)=false:=by simpa using hA
 have Nl:(kd==4)=false:=by simpa using rQ
 have Ng:(kd==13)=false:=by simpa using ER
 have No:(kd==7)=false:=by simpa using o'
 have Np:(kd==8)=false:=by simpa using rR
 have Nq:(kd==9)=false:=by simpa using yy
 have Nf:(kd==10)=false:=by simpa using yu
 have Nh:(kd==24)=false:=by simpa using yv
 have Ni:(kd==34)=false:=by simpa using yw
 clear bT o9 o8 yx cY hA rQ ER o' rR yy yu yv yw;go_enter func104,ntmps104;go_wp2;go_ret;exact⟨rfl,jo⟩
def WL (h3:need t.kd<=t.kids.length):Oq 104 #[N7 p,XP s i b] w fun e w'=>e=OA (Ve (wrT t s i b))/\Oo w w':=by
 unfold wrT
 by_cases bP:t.kd=1
 ·rw[if_pos bP];exact aGe t p s i b w h ai bP
 rw[if_neg bP]
 by_cases n8:t.kd=6
 ·rw[if_pos n8];exact aGf t p s i b w h ai n8
 rw[if_neg n8]
 by_cases k3:t.kd=5\/t.kd=37
 ·rw[if_pos k3];have ax:need t.kd=2:=by unfold need;rw[if_pos (k3.imp id Or.inl)]
  rcases k3 with k|k
  ·exact aGg t p s i b w h ai k Oe
  ·exact azC t p s i b w h ai k Oe
 rw[if_neg k3]
 by_cases de:t.kd=2\/t.kd=3\/t.kd=4
 ·rw[if_pos de]
  rcases de with k|k|k
  ·exact aGk t p s i b w h ai k
  ·exact aGl t p s i b w h ai k
  ·exact aGm t p s i b w h ai k
 rw[if_neg de];have ax:∀ c:Int,(c=13\/c=24\/c=34)->t.kd=c->1<=t.kids.length:=fun c sS e=>by
  have:need t.kd=1:=by
   rw[e]
   rcases sS with rfl|rfl|rfl <;> decide
  omega
 by_cases wU:t.kd=13
 ·rw[if_pos wU];exact azD t p s i b w h ai wU (ax _ OW wU)
 rw[if_neg wU]
 by_cases mM:t.kd=7\/t.kd=8\/t.kd=9
 ·rw[if_pos mM]
  rcases mM with k|k|k
  ·exact aGh t p s i b w h ai k
  ·exact aGi t p s i b w h ai k
  ·exact aGj t p s i b w h ai k
 rw[if_neg mM]
 by_cases s':t.kd=10
 ·rw[if_pos s'];exact azE t p s i b w h ai s'
 rw[if_neg s']
 by_cases lC:t.kd=24
 ·rw[if_pos lC];exact azF t p s i b w h ai lC (ax _ OW lC)
 rw[if_neg lC]
 by_cases lD:t.kd=34
 ·rw[if_pos lD];exact azI t p s i b w h ai lD (ax _ OW lD)
 rw[if_neg lD];exact wrE t p s i b w h ⟨bP,n8,fun e=>k3 (Or.inl e),fun e=>k3 (Or.inr e),fun e=>de (Or.inl e),fun e=>de (Or.inr (Or.inl e)),fun e=>de (Or.inr (Or.inr e)),wU,fun e=>mM (Or.inl e),fun e=>mM (Or.inr (Or.inl e)),fun e=>mM (Or.inr (Or.inr e)),s',lC,lD⟩
end
def s2 (t:Tr)(s:Bool):Bool:=if QZ t then (s||OU t)||OU (PZ t 1) else s||OU t
def i2 (t:Tr)(i:Bool):Bool:=if QZ t then true else i
mutual
def chk:Tr->Bool->Bool->Bool->Option Int
 | .mk kd tx n ks,s,i,b=>match wrT (.mk kd tx n ks) (s2 (.mk kd tx n ks) s) (i2 (.mk kd tx n ks) i) b with
  | some e=>some e
  | none=>SN ks (s2 (.mk kd tx n ks) s) (i2 (.mk kd tx n ks) i) (QZ (.mk kd tx n ks))
def SN:List Tr->Bool->Bool->Bool->Option Int
 | [],_,_,_=>none
 | t::ap,s,i,b=>match chk t s i b with
  | some e=>some e
  | none=>SN ap s i b
end
def abr (t:Tr)(s i b:Bool):chk t s i b=match wrT t (s2 t s) (i2 t i) b with
  | some e=>some e
  | none=>SN t.kids (s2 t s) (i2 t i) (QZ t):=by
 cases t with
 | mk kd tx n ks=>rw[chk];rfl
def WM:∀ (ap:List Tr) (s i b:Bool) (k:Nat) (E:k<ap.length),SN (ap.take k) s i b=none->chk ap[k] s i b=none->SN (ap.take (k+1)) s i b=none
 | [],_,_,_,k,E=>absurd E OW
 | t::ap,s,i,b,0,_=>fun _ h=>by
  rw[List.take_succ_cons,List.take_zero,SN];rw[show chk t s i b=none from h];rw[SN]
 | t::ap,s,i,b,k+1,E=>fun h1 U=>by
  rw[List.take_succ_cons,SN] at h1 ⊢
  cases h:chk t s i b with
  | some e=>rw[h] at h1;cases h1
  | none=>
   rw[h] at h1;exact WM ap s i b k (by simpa using E) h1 U
def XU:∀ (ap:List Tr) (s i b:Bool) (k:Nat) (E:k<ap.length) (e:Int),SN (ap.take k) s i b=none->chk ap[k] s i b=some e->SN ap s i b=some e
 | [],_,_,_,k,E,_=>absurd E OW
 | t::ap,s,i,b,0,_,e=>fun _ h=>by
  rw[SN,show chk t s i b=some e from h]
 | t::ap,s,i,b,k+1,E,e=>fun h1 U=>by
  rw[List.take_succ_cons,SN] at h1;rw[SN]
  cases h:chk t s i b with
  | some e=>rw[h] at h1;cases h1
  | none=>
   rw[h] at h1;exact XU ap s i b k (by simpa using E) e h1 U
abbrev PlB (b:Nat)(s i d:Bool)(w:Og):Prop:=w.heap[b]? = some (OM #[Om s,Om i,Om d] 112)
def PlB.at {b:Nat}{s i d:Bool}{w:Og}(h:PlB b s i d w):XI b s i d w:=⟨by rw[cell_of h];rfl,by rw[cell_of h];rfl,by rw[cell_of h];rfl⟩
def auH (m:Nat):Prop:=∀ (t:Tr),t.count<=m->t.ill=0->t.count<=20000->∀ (p:Nat) (s i b:Bool) (w:Og),Ug w t p ->
  Oq 48 #[N7 p,XP s i b] w fun e w'=>e=OA (Ve (chk t s i b))/\Oo w w'
section
variable {m:Nat} (bv:auH m) (t:Tr) (aZ:t.count<=m+1) (h3:t.ill=0) (ai:t.count<=20000) (p:Nat) (i b:Bool) (w:Og) (h:Ug w t p)
include bv aZ h3 ai h
def azJ (kV:QZ t=false):Oq 48 #[N7 p,XP true i b] w fun e w'=>e=OA (Ve (chk t true i b))/\Oo w w':=by
 have z:=N8 (∀{G}(h:G:=by
 have⟨n3,oR⟩:=abt t h3;have iI:s2 t true=true:=by unfold s2;rw[kV];simp[]
 have kt:i2 t i=i:=by unfold i2;rw[kV];rfl
 have mA:=abr t true i b;have z:=N8 (∀{G}(h:G:=by
 have mn:=hide (fun W (a6:Oo w W)=>WL t p true i b W (fd W a6) ai n3);have nA:Hid (∀ W,Oo w W->Oq 102 #[N7 p] W fun e w'=>e=OA (Om false)/\w'=W):=fun W a6=>avx
 have z:=N8 (∀{G}(h:G:=by
 have nC:Hid (∀ (k:Nat) (E:k<t.kids.length) (q:Nat) (W:Og),Ug W t.kids[k] q->Oq 48 #[N7 q,XP true i false] W fun e w'=>e=OA (Ve (chk t.kids[k] true i false))/\Oo W w'):=fun k E q W ag=>by
  have h1:=Ux t.kids k E;exact bv t.kids[k] Oe (oR _ (List.getElem_mem _)) Oe q true i false W ag
 have⟨er,nX⟩:=xE (wrT t true i b);have⟨vJ,fG⟩:=xE (SN t.kids true i false);rw[<-nX,<-fG] at mA;simp only[<-nX] at mn;rw[mA];have tw:=hide fG;have jo:=((Below.refl w.heap.size w).alloc Pg (.cells #[Om true,Om i,Om b] 112));clear aZ h3 ai h gP n3 oR iI kt fd nX fG mA;go_enter func48,ntmps48;have z:=N8 (∀{G}(h:G:=by
 have⟨oa,ly⟩:=xE (w.alloc (.cells #[Om true,Om i,Om b] 112));have hQ:Oo w oa:=by rw[ly];exact PE
 have j2:PlB w.heap.size true i b oa:=by rw[ly];exact Oi _ _
 have z:=N8 (∀{G}(h:G:=by
 have n7:PlB w.heap.size true i b dO:=(eX.block w.heap.size (lt_of_heap j2)).trans j2;have cq:=(hQ.trans (eX.mono hQ.size));clear ly
 cases er with
 | some e=>
  unfold Ve;go_wp2;go_ret;exact⟨rfl,cq⟩
 | none=>
  have z:=N8 (∀{G}(h:G:=by
  have⟨i8,gR⟩:=xE (jl.setCell (N9 w.heap.size 2) (Om false));have oY:PlB w.heap.size true i false i8:=by rw[gR,PlB,heap_set n7];rfl
  have z:=N8 (∀{G}(h:G:=by
  go_loopw [41] (fun j wr=>∃ k:Nat,k<=t.kids.length/\j=NY k/\SN (t.kids.take k) true i false=none/\Oo i8 wr) (fun j _=>t.kids.length - (intOf j).toNat)
  case atStart=>exact⟨0,Nat.zero_le _,rfl,by rw[List.take_zero,SN],QI⟩
  case round=>
   obtain⟨k,E,rfl,fo,A⟩:=hrel;have fK:=hide fo;clear fo
   by_cases aM:k<t.kids.length
   ·have z:=N8 (∀{G}(h:G:=by
    have s1:PlB w.heap.size true i false wr:=(A.block w.heap.size (lt_of_heap oY)).trans oY;have z:=N8 (∀{G}(h:G:=by
    have hV:=hide (fun e=>XU t.kids true i false k aM e fK.out);have el:=hide (WM t.kids true i false k aM fK.out)
    generalize chk t.kids[k] true i false=r at aj hV el
    exact aDs),G);exact arN),G);exact arO
   ·exact aDA),G);exact azK),G);exact arP),G);exact arQ),G);exact arR),G);exact anK),G);exact anL),G);exact zsw
def azL (kV:QZ t=true):Oq 48 #[N7 p,XP true i b] w fun e w'=>e=OA (Ve (chk t true i b))/\Oo w w':=by
 have z:=N8 (∀{G}(h:G:=by
 have⟨n3,oR⟩:=abt t h3;have iI:s2 t true=true:=by unfold s2;rw[kV];simp[]
 have kt:i2 t i=true:=by unfold i2;rw[kV];rfl
 have mA:=abr t true i b;have z:=N8 (∀{G}(h:G:=by
 have mn:=hide (fun W (a6:Oo w W)=>WL t p true true b W (fd W a6) ai n3);have z:=N8 (∀{G}(h:G:=by
 have z:=N8 (∀{G}(h:G:=by
 have z:=N8 (∀{G}(h:G:=by
 have jo:=((Below.refl w.heap.size w).alloc Pg (.cells #[Om true,Om i,Om b] 112));clear aZ h3 ai h gP n3 oR iI kt fd nX fG mA;go_enter func48,ntmps48;exact azM),G);exact azN),G);exact anK),G);exact avA),G);exact anL),G);exact zsw
def azO (kV:QZ t=false):Oq 48 #[N7 p,XP false i b] w fun e w'=>e=OA (Ve (chk t false i b))/\Oo w w':=by
 have z:=N8 (∀{G}(h:G:=by
 have⟨n3,oR⟩:=abt t h3;have iI:s2 t false=(OU t):=by unfold s2;rw[kV];simp[]
 have kt:i2 t i=i:=by unfold i2;rw[kV];rfl
 have mA:=abr t false i b;have z:=N8 (∀{G}(h:G:=by
 have mn:=hide (fun W (a6:Oo w W)=>WL t p (OU t) i b W (fd W a6) ai n3);have nA:Hid (∀ W,Oo w W->Oq 102 #[N7 p] W fun e w'=>e=OA (Om false)/\w'=W):=fun W a6=>avx
 have ha:=hide (fun W (a6:Oo w W)=>Td t p W (fd W a6));have z:=N8 (∀{G}(h:G:=by
 have nC:Hid (∀ (k:Nat) (E:k<t.kids.length) (q:Nat) (W:Og),Ug W t.kids[k] q->Oq 48 #[N7 q,XP (OU t) i false] W fun e w'=>e=OA (Ve (chk t.kids[k] (OU t) i false))/\Oo W w'):=fun k E q W ag=>by
  have h1:=Ux t.kids k E;exact bv t.kids[k] Oe (oR _ (List.getElem_mem _)) Oe q (OU t) i false W ag
 have⟨er,nX⟩:=xE (wrT t (OU t) i b);have⟨vJ,fG⟩:=xE (SN t.kids (OU t) i false);have z:=N8 (∀{G}(h:G:=by
 generalize OU t=st at mn ha nC tw
 have z:=N8 (∀{G}(h:G:=by
 rintro e fB ⟨rfl,rfl⟩;have z:=N8 (∀{G}(h:G:=by
 have⟨oa,ly⟩:=xE (w.alloc (.cells #[Om st,Om i,Om b] 112));have hQ:Oo w oa:=by rw[ly];exact PE
 have j2:PlB w.heap.size st i b oa:=by rw[ly];exact Oi _ _
 have z:=N8 (∀{G}(h:G:=by
 have n7:PlB w.heap.size st i b dO:=(eX.block w.heap.size (lt_of_heap j2)).trans j2;have cq:=(hQ.trans (eX.mono hQ.size));clear ly
 cases er with
 | some e=>
  unfold Ve;go_wp2;go_ret;exact⟨rfl,cq⟩
 | none=>
  have z:=N8 (∀{G}(h:G:=by
  have⟨i8,gR⟩:=xE (jl.setCell (N9 w.heap.size 2) (Om false));have oY:PlB w.heap.size st i false i8:=by rw[gR,PlB,heap_set n7];rfl
  have z:=N8 (∀{G}(h:G:=by
  go_loopw [41] (fun j wr=>∃ k:Nat,k<=t.kids.length/\j=NY k/\SN (t.kids.take k) st i false=none/\Oo i8 wr) (fun j _=>t.kids.length - (intOf j).toNat)
  case atStart=>exact⟨0,Nat.zero_le _,rfl,by rw[List.take_zero,SN],QI⟩
  case round=>
   obtain⟨k,E,rfl,fo,A⟩:=hrel;have fK:=hide fo;clear fo
   by_cases aM:k<t.kids.length
   ·have z:=N8 (∀{G}(h:G:=by
    have s1:PlB w.heap.size st i false wr:=(A.block w.heap.size (lt_of_heap oY)).trans oY;have z:=N8 (∀{G}(h:G:=by
    have hV:=hide (fun e=>XU t.kids st i false k aM e fK.out);have el:=hide (WM t.kids st i false k aM fK.out)
    generalize chk t.kids[k] st i false=r at aj hV el
    exact aDs),G);exact arN),G);exact arO
   ·exact aDA),G);exact azK),G);exact arP),G);exact arQ),G);exact arR),G);exact avC),G);exact azP),G);exact anK),G);exact anL),G);exact zsw
def azQ (kV:QZ t=true)(bC:OU t=true):Oq 48 #[N7 p,XP false i b] w fun e w'=>e=OA (Ve (chk t false i b))/\Oo w w':=by
 have z:=N8 (∀{G}(h:G:=by
 have⟨n3,oR⟩:=abt t h3;have iI:s2 t false=true:=by unfold s2;rw[kV];simp[bC]
 have kt:i2 t i=true:=by unfold i2;rw[kV];rfl
 have mA:=abr t false i b;have z:=N8 (∀{G}(h:G:=by
 have mn:=hide (fun W (a6:Oo w W)=>WL t p true true b W (fd W a6) ai n3);have z:=N8 (∀{G}(h:G:=by
 have ha:=hide (fun W (a6:Oo w W)=>Td t p W (fd W a6));have z:=N8 (∀{G}(h:G:=by
 have z:=N8 (∀{G}(h:G:=by
 have jo:=((Below.refl w.heap.size w).alloc Pg (.cells #[Om false,Om i,Om b] 112));simp only[bC] at ha;have z:=N8 (∀{G}(h:G:=by
 rintro e fB ⟨rfl,rfl⟩;exact azM),G);exact avC),G);exact azN),G);exact anK),G);exact avA),G);exact anL),G);exact zsw
def azR (kV:QZ t=true)(bC:OU t=false):Oq 48 #[N7 p,XP false i b] w fun e w'=>e=OA (Ve (chk t false i b))/\Oo w w':=by
 have z:=N8 (∀{G}(h:G:=by
 have⟨n3,oR⟩:=abt t h3;have iI:s2 t false=(OU (PZ t 1)):=by unfold s2;rw[kV];simp[bC]
 have kt:i2 t i=true:=by unfold i2;rw[kV];rfl
 have mA:=abr t false i b;have z:=N8 (∀{G}(h:G:=by
 have mn:=hide (fun W (a6:Oo w W)=>WL t p (OU (PZ t 1)) true b W (fd W a6) ai n3);have z:=N8 (∀{G}(h:G:=by
 have ha:=hide (fun W (a6:Oo w W)=>Td t p W (fd W a6));have z:=N8 (∀{G}(h:G:=by
 have CE:=hide (fun(q:Nat) (W:Og) (ag:Ug W (PZ t 1) q)=>Td (PZ t 1) q W ag);have nC:Hid (∀ (k:Nat) (E:k<t.kids.length) (q:Nat) (W:Og),Ug W t.kids[k] q->Oq 48 #[N7 q,XP (OU (PZ t 1)) true true] W fun e w'=>e=OA (Ve (chk t.kids[k] (OU (PZ t 1)) true true))/\Oo W w'):=fun k E q W ag=>by
  have h1:=Ux t.kids k E;exact bv t.kids[k] Oe (oR _ (List.getElem_mem _)) Oe q (OU (PZ t 1)) true true W ag
 have⟨er,nX⟩:=xE (wrT t (OU (PZ t 1)) true b);have⟨vJ,fG⟩:=xE (SN t.kids (OU (PZ t 1)) true true);have z:=N8 (∀{G}(h:G:=by
 simp only[bC] at ha
 generalize OU (PZ t 1)=st at mn nC tw CE
 have z:=N8 (∀{G}(h:G:=by
 rintro e fB ⟨rfl,rfl⟩;have z:=N8 (∀{G}(h:G:=by
 refine cm (NZ lI kV _ ((Below.refl w.heap.size w).alloc Pg _)) ?_;rintro e cy ⟨⟨q,rfl,ag⟩,rfl⟩;have aj:=(NZ CE q _ ag);go_wp2_with fail;refine cm aj ?_;rintro e cy ⟨rfl,rfl⟩;go_wp2_with fail;have⟨oa,ly⟩:=xE (w.alloc (.cells #[Om st,Om true,Om b] 112));have hQ:Oo w oa:=by rw[ly];exact PE
 have j2:PlB w.heap.size st true b oa:=by rw[ly];exact Oi _ _
 have z:=N8 (∀{G}(h:G:=by
 have n7:PlB w.heap.size st true b dO:=(eX.block w.heap.size (lt_of_heap j2)).trans j2;have cq:=(hQ.trans (eX.mono hQ.size));clear ly
 cases er with
 | some e=>
  unfold Ve;go_wp2;go_ret;exact⟨rfl,cq⟩
 | none=>
  have z:=N8 (∀{G}(h:G:=by
  have⟨i8,gR⟩:=xE (jl.setCell (N9 w.heap.size 2) (Om true));have oY:PlB w.heap.size st true true i8:=by rw[gR,PlB,heap_set n7];rfl
  have dc:Oo w i8:=aDB
  have z:=N8 (∀{G}(h:G:=by
  go_loopw [41] (fun j wr=>∃ k:Nat,k<=t.kids.length/\j=NY k/\SN (t.kids.take k) st true true=none/\Oo i8 wr) (fun j _=>t.kids.length - (intOf j).toNat)
  case atStart=>exact⟨0,Nat.zero_le _,rfl,by rw[List.take_zero,SN],QI⟩
  case round=>
   obtain⟨k,E,rfl,fo,A⟩:=hrel;have fK:=hide fo;clear fo
   by_cases aM:k<t.kids.length
   ·have z:=N8 (∀{G}(h:G:=by
    have s1:PlB w.heap.size st true true wr:=(A.block w.heap.size (lt_of_heap oY)).trans oY;have z:=N8 (∀{G}(h:G:=by
    have hV:=hide (fun e=>XU t.kids st true true k aM e fK.out);have el:=hide (WM t.kids st true true k aM fK.out)
    generalize chk t.kids[k] st true true=r at aj hV el
    exact aDs),G);exact arN),G);exact arO
   ·exact aDA),G);exact azT),G);exact arP),G);exact arQ),G);exact arR),G);exact avC),G);exact azP),G);exact anK),G);exact avA),G);exact anL),G);exact zsw
end
def alC:∀ m,auH m:=by
 intro m
 induction m with
 | zero=>
  exact avD
 | succ m bv=>
  intro t aZ h3 ai p s i b w h
  cases s with
  | true=>
   cases aF:QZ t with
   | true=>exact azL bv t aZ h3 ai p i b w h aF
   | false=>exact azJ bv t aZ h3 ai p i b w h aF
  | false=>
   cases aF:QZ t with
   | false=>exact azO bv t aZ h3 ai p i b w h aF
   | true=>
    cases ab:OU t with
    | true=>exact azQ bv t aZ h3 ai p i b w h aF ab
    | false=>exact azR bv t aZ h3 ai p i b w h aF ab
def adx (t:Tr)(p:Nat)(s i:Bool)(w:Og)(h:Ug w t p)(h3:t.ill=0)(ai:t.count<=20000):Oq 26 #[N7 p,Om s,Om i] w fun e w'=>e=OA (Ve (chk t s i false))/\Oo w w':=by
 have aj:=(alC t.count t Pg h3 ai p s i false w h);clear h h3 ai
 generalize chk t s i false=r at aj
 cases r <;>
 ·go_enter func26,ntmps26;go_wp2_with fail;refine cm aj ?_;rintro e w1 ⟨rfl,A⟩;unfold Ve;go_wp2;go_ret;exact⟨rfl,A⟩
def XV {s eh:Bool}{x:Ou}(ab:eh=true->s=true)(h:nmE s x=none):nmE eh x=none:=by
 unfold nmE at h ⊢
 cases eh with
 | false=>rfl
 | true=>rw[ab rfl] at h;exact h
def alD {s eh:Bool}{P:List Tr}{k:Nat}(ab:eh=true->s=true)(h:U7 s P k=none):U7 eh P k=none:=by
 unfold U7 at h ⊢
 cases h1:nmE s (acY P k) with
 | some e=>rw[h1] at h;cases h
 | none=>
  rw[h1] at h;rw[XV ab h1]
  cases eh with
  | false=>rfl
  | true=>rw[ab rfl] at h;exact h
def aaC {f g:Nat->Option Int}(DY:∀ k,f k=none->g k=none):∀ n,TP f n=none->TP g n=none
 | 0,_=>rfl
 | n+1,h=>by
  rw[TP] at h ⊢
  cases h1:TP f n with
  | some e=>rw[h1] at h;cases h
  | none=>
   rw[h1] at h;rw[aaC DY n h1];exact DY n h
section
variable {s eh:Bool} {t:Tr} (ab:eh=true->s=true)
include s eh t ab
def anM (h:fnE t s=none):fnE t eh=none:=by
 unfold fnE at h ⊢
 cases h1:nmE s t.tx with
 | some e=>rw[h1] at h;cases h
 | none=>
  rw[h1] at h;rw[XV ab h1]
  cases U:anI s (PZ t 0).kids with
  | some e=>simp only[U] at h;cases h
  | none=>
   simp only[U] at h;have av:anI eh (PZ t 0).kids=none:=aaC (fun k=>alD ab) _ U;simp only[av];exact h
def af5 (h:Xg t s=none):Xg t eh=none:=by
 unfold Xg at h ⊢
 cases h1:nmE s t.tx with
 | some e=>rw[h1] at h;cases h
 | none=>
  rw[h1] at h;rw[XV ab h1];exact h
def anN (h:brE t s=none):brE t eh=none:=by
 unfold brE at h ⊢
 cases eh with
 | true=>rw[ab rfl] at h;exact h
 | false=>
  split at h
  ·
   cases h
  ·rename_i ax
   rw[if_neg];intro hh;exact ax (by simp at hh ⊢;exact Or.inr hh)
end
def anO {t:Tr}{s eh i hm b:Bool}(ab:eh=true->s=true)(az:i=true->hm=true)(h:wrT t s i b=none):wrT t eh hm b=none:=by
 unfold wrT at h ⊢
 split at h
 ·rename_i k;rw[if_pos k];exact h
 rename_i bP;rw[if_neg bP]
 split at h
 ·rename_i k;rw[if_pos k];exact h
 rename_i de;rw[if_neg de]
 split at h
 ·rename_i k;rw[if_pos k];exact anM ab h
 rename_i g8;rw[if_neg g8]
 split at h
 ·rename_i k;rw[if_pos k];exact XV ab h
 rename_i k4;rw[if_neg k4]
 split at h
 ·rename_i k;rw[if_pos k];exact af5 ab h
 rename_i k3;rw[if_neg k3]
 split at h
 ·rename_i k;rw[if_pos k];exact anN ab h
 rename_i n8;rw[if_neg n8]
 split at h
 ·rename_i k
  rw[if_pos k]
  split at h
  ·rename_i hh;rw[if_pos (az hh)]
  ·
   cases h
 rename_i mM;rw[if_neg mM]
 split at h
 ·rename_i k
  rw[if_pos k]
  split at h
  ·rename_i hh;rw[if_pos hh];exact XV ab h
  ·rename_i hh;rw[if_neg hh]
 rename_i td;rw[if_neg td]
 split at h
 ·rename_i k
  rw[if_pos k]
  cases eh with
  | false=>rfl
  | true=>rw[ab rfl] at h;exact h
 ·rename_i k;rw[if_neg k]
def akb {t:Tr}{s eh:Bool}(ab:eh=true->s=true):s2 t eh=true->s2 t s=true:=by
 unfold s2
 cases eh with
 | false=>cases s <;> cases QZ t <;> simp <;> exact fun h=>h
 | true=>rw[ab rfl];exact fun h=>h
def akc {t:Tr}{i hm:Bool}(az:i=true->hm=true):i2 t i=true->i2 t hm=true:=by
 unfold i2
 cases QZ t with
 | true=>exact fun h=>h
 | false=>exact az
mutual
def anP:∀ (t:Tr) {s eh i hm b:Bool},(eh=true->s=true)->(i=true->hm=true)->chk t s i b=none->chk t eh hm b=none
 | .mk kd tx n ks,s,eh,i,hm,b,ab,az,h=>by
  rw[chk] at h ⊢
  cases h1:wrT (.mk kd tx n ks) (s2 (.mk kd tx n ks) s) (i2 (.mk kd tx n ks) i) b with
  | some e=>rw[h1] at h;cases h
  | none=>
   rw[h1] at h;rw[anO (akb ab) (akc az) h1];exact ady ks (akb ab) (akc az) h
def ady:∀ (ap:List Tr) {s eh i hm b:Bool},(eh=true->s=true)->(i=true->hm=true)->SN ap s i b=none->SN ap eh hm b=none
 | [],_,_,_,_,_,_,_,_=>by rw[SN]
 | t::ap,s,eh,i,hm,b,ab,az,h=>by
  rw[SN] at h ⊢
  cases h1:chk t s i b with
  | some e=>rw[h1] at h;cases h
  | none=>
   rw[h1] at h;rw[anP t ab az h1];exact ady ap ab az h
end
namespace Hp
instance:DecidableEq Va:=fun a b=>decidable_of_iff (a.k=b.k/\a.n=b.n/\a.s=b.s) ⟨fun⟨h1,U,av⟩=>by cases a;cases b;simp_all,fun h=>by subst h;exact⟨rfl,rfl,rfl⟩⟩
def vU:Va:=⟨0,0,Oh⟩
def agD:Va:=⟨1,0,Oh⟩
def PX (b:Bool):Va:=⟨2,if b then 1 else 0,Oh⟩
def V7 (n:Int):Va:=⟨3,n,Oh⟩
def VD (s:Ou):Va:=⟨4,0,s⟩
def SQ (o:Int):Va:=⟨5,o,Oh⟩
def Va.tru (v:Va):Bool:=if v.k=0\/v.k=1 then false else if v.k=2\/v.k=3 then v.n != 0 else if v.k=4 then !decide (v.s=Oh) else true
abbrev QN:Ou:=⟨#[114,101,102,101,114,101,110,99,101]⟩
abbrev tType:Ou:=⟨#[116,121,112,101]⟩
abbrev Uw:Ou:=⟨#[114,97,110,103,101]⟩
abbrev Uk:Ou:=⟨#[115,121,110,116,97,120]⟩
abbrev Rf:Ou:=⟨#[117,110,100,101,102,105,110,101,100]⟩
abbrev akd:Ou:=⟨#[110,117,108,108]⟩
abbrev abv:Ou:=⟨#[116,114,117,101]⟩
abbrev YV:Ou:=⟨#[102,97,108,115,101]⟩
abbrev P7:Ou:=⟨#[102,117,110,99,116,105,111,110]⟩
abbrev Yr:Ou:=⟨#[111,98,106,101,99,116]⟩
abbrev agE:Ou:=⟨#[98,111,111,108,101,97,110]⟩
abbrev ako:Ou:=⟨#[110,117,109,98,101,114]⟩
abbrev akp:Ou:=⟨#[115,116,114,105,110,103]⟩
abbrev Xn:Ou:=⟨#[108,101,110,103,116,104]⟩
abbrev UM:Ou:=⟨#[112,114,105,110,116]⟩
def YK (n:Int):Ou:=⟨(Lib.itoa n).toArray⟩
def Xo (a b:Ou):Ou:=⟨(a.data.toList++b.data.toList).toArray⟩
def XE:List Ou->Ou
 | []=>Oh
 | [a]=>a
 | a::l=>Xo a (Xo ⟨#[32]⟩ (XE l))
def Mo.shw (M:Mo)(v:Va):Ou:=
 if v.k=0 then Rf else if v.k=1 then akd else if v.k=2 then (if v.tru then abv else YV) else if v.k=3 then YK v.n else if v.k=4 then v.s else if v.k=5 then (if M.codeOf v.n≠0 then P7 else Yr) else Oh
inductive Er where
 | no
 | stop
 | X8 (v:Va)
 | mis
def erP (c:Int):Er:=if c=0 then .no else .mis
abbrev bad (s:Ou):Er:=.X8 (VD s)
abbrev Nd:=Option Nat × Tr
structure Fu where
 d:Nd
 scope:Int
 strict:Bool
structure Pl where
 scope:Int
 declares:Int
 strict:Bool
structure St where
 M:Mo
 log:List Ou
 steps:Nat
 seen:List (Int × Int)
 Qw:List Int
 Qg:List Fu
 calls:Nat
def WU:Option Nat->List Tr->List Nd
 | _,[]=>[]
 | no,t::ap=>(no,t)::WU (no.map (· + t.count)) ap
abbrev Px (d:Nd):List Nd:=WU (d.1.map (· + 1)) d.2.kids
abbrev asqq:Nd:=(none,.mk 22 Oh 0 [])
abbrev Oa (d:Nd)(i:Nat):Nd:=(Px d).getD i asqq
def own (d:Nd):Int:=match d.1 with
 | some k=>k
 | none=>-3
def St.opn (σ:St)(u o ow:Int):St:={ σ with M:=σ.M.scope u o,Qw:=σ.Qw++[ow] }
abbrev St.top (σ:St):Int:=σ.M.Ov.length
def St.step (σ:St):St:={ σ with steps:=σ.steps+1 }
def mkFun (d:Nd)(p:Pl)(σ:St):Va × St:=
 (SQ σ.M.objs.length,{ σ with Qg:=σ.Qg++[⟨d,p.scope,p.strict||OU (Oa d 1).2⟩],M:=σ.M.OY (3+σ.Qg.length) })
def St.dec (σ:St)(s:Int)(nm:Ou)(kd:Int)(v:Va):St:={ σ with M:=(σ.M.declare s nm kd v).2 }
def St.Qx (σ:St)(o:Int)(nm:Ou)(v:Va)(fx:Bool):St:={ σ with M:=(σ.M.put o nm v fx).2 }
def Uz (d:Nd)(p:Pl)(σ:St):Va × St:=
 if d.2.tx=Oh then mkFun d p σ else
  let s:=σ.top
  let σ1:=σ.opn p.scope (-1) (own d)
  let r:=mkFun d { p with scope:=s } σ1
  (r.1,r.2.dec s d.2.tx 3 r.1)
def settle (s:Int)(nm:Ou)(v:Va)(σ:St):St:=
 if (σ.M.declare s nm 0 v).1=0 then σ.dec s nm 0 v else { σ with M:=(σ.M.write s nm v).2 }
def PN (ap:List Tr)(s:Int)(σ:St):St:=ap.foldl (fun σ k=>σ.dec s k.tx (if k.kd=4 then 2 else 1) vU) σ
def SX (d:Nd):List Nd:=(Px d).filter fun k=>TJ k.2
def Sj (d:Nd)(p:Pl)(σ:St):St:=(SX d).foldl (fun σ k=>let r:=mkFun k p σ;settle p.scope k.2.tx r.1 r.2) σ
def Pq (d:Nd)(σ:St):Pl × St:=
 let σ1:=(Py d.2).foldl (fun σ nm=>if σ.M.has 0 nm then σ else σ.Qx 0 nm vU true) σ
 let b6:=PN (OZ d.2) 1 σ1
 let p:Pl:=⟨1,0,OU d.2⟩
 (p,(SX d).foldl (fun σ k=>let r:=mkFun k p σ;r.2.Qx 0 k.2.tx r.1 true) b6)
def hasArgs (ps:List Tr)(bl:Tr):Bool:=!(ps.any fun k=>decide (k.tx=tArgs)) && !hasB (namesT bl false) tArgs
def Qa (args:List Va)(σ:St):Va × St:=
 let o:Int:=σ.M.objs.length
 let σ1:=({ σ with M:=σ.M.OY 0 }:St).Qx o Xn (V7 args.length) false
 (SQ o,(args.zipIdx).foldl (fun σ (v,i)=>σ.Qx o (Xo ⟨#[97]⟩ (YK i)) v false) σ1)
def QB (d:Nd)(p:Pl)(args:List Va)(σ:St):St:=
 let ps:=(Oa d 0).2.kids
 let bl:=Oa d 1
 let σ1:=(ps.zipIdx).foldl (fun σ (k,i)=>settle p.scope k.tx (args.getD i vU) σ) σ
 let b6:=if hasArgs ps bl.2 then let r:=Qa args σ1;r.2.dec p.scope tArgs 0 r.1 else σ1
 let qX:=(Py bl.2).foldl (fun σ nm=>σ.dec p.scope nm 0 vU) b6
 Sj bl p (PN (OZ bl.2) p.scope qX)
def Ph (d:Nd)(p:Pl)(σ:St):Pl × St:=
 if (namesT d.2 false).length=0 then (p,σ) else
  let s:=σ.top
  let cu:={ p with scope:=s }
  (cu,Sj d cu (PN (OZ d.2) s (σ.opn p.scope (-1) (own d))))
def look (d:Nd)(p:Pl)(σ:St):Int × St:=
 let s:=σ.M.find p.scope d.2.tx
 (s,match d.1 with
  | some k=>if s≠-1 then { σ with seen:=σ.seen++[((k:Int),σ.Qw.getD s.toNat 0)] } else σ
  | none=>σ)
def Wy (s:Int)(nm:Ou)(v:Va)(strict:Bool)(σ:St):Er × St:=
 if strict then (bad QN,σ) else
  let o:=σ.M.QX s
  (erP (σ.M.put (if o = -1 then 0 else o) nm v false).1,σ.Qx (if o = -1 then 0 else o) nm v false)
def Zj (s:Int)(nm:Ou)(v:Va)(strict:Bool)(σ:St):Er × St:=
 let r:=σ.M.write s nm v
 let σ1:St:={ σ with M:=r.2 }
 if r.1=7 then Wy s nm v strict σ1 else if r.1=6 then (bad QN,σ1) else if r.1=1 then (bad tType,σ1) else if r.1=5 then (if strict then bad tType else .no,σ1) else (.no,σ1)
def Vq (M:Mo)(v:Va):Ou:=if v.k=0 then Rf else if v.k=2 then agE else if v.k=3 then ako else if v.k=4 then akp else if v.k=5/\M.codeOf v.n≠0 then P7 else Yr
def UN (n:Int):Va × Er:=if n < -1000000000\/1000000000<n then (vU,bad Uw) else (V7 n,.no)
def UO (M:Mo)(kd:Int)(a b:Va):Va × Er:=
 if kd=27 then (PX (decide (a=b)),.no)
 else if a.k=3/\b.k=3 then (if kd=28 then (PX (decide (a.n<b.n)),.no) else if kd=29 then UN (a.n+b.n) else if kd=30 then UN (a.n - b.n) else UN (a.n * b.n))
 else if kd=29/\(a.k=4\/b.k=4) then (if 500<(M.shw a).size+(M.shw b).size then (vU,bad Uw) else (VD (Xo (M.shw a) (M.shw b)),.no))
 else if kd=28/\a.k=4/\b.k=4 then (PX (decide (a.s.data.toList<b.s.data.toList)),.no)
 else (vU,bad tType)
structure Oc where
 ret:Bool
 v:Va
abbrev Qy:Oc:=⟨false,vU⟩
structure Fx where
 v:Nd->Pl->St->(Va × Er) × St
 s:Nd->Pl->Option Va->St->(Oc × Er × Option Va) × St
section
variable (F:Fx)
def Tn (p:Pl):List Nd->List Va->St->(List Va × Er) × St
 | [],aX,σ=>((aX,.no),σ)
 | d::aW,aX,σ=>match F.v d p σ with
  | ((v,.no),σ1)=>Tn p aW (aX++[v]) σ1
  | ((_,e),σ1)=>(([],e),σ1)
def Qm (p:Pl):List Nd->Option Va->St->(Oc × Er × Option Va) × St
 | [],l,σ=>((Qy,.no,l),σ)
 | d::aW,l,σ=>match F.s d p l σ with
  | ((o,.no,bQ),σ1)=>if o.ret then ((o,.no,bQ),σ1) else Qm p aW bQ σ1
  | r=>r
def within (σ:St)(f:St->(Va × Er) × St):(Va × Er) × St:=
 if σ.calls=40 then ((vU,bad Uw),σ) else
  let r:=f { σ with calls:=σ.calls+1 }
  (r.1,{ r.2 with calls:=r.2.calls - 1 })
def VE (f:Fu)(args:List Va)(σ:St):(Va × Er) × St:=within σ fun σ=>
 let s:=σ.top
 let σ1:=σ.opn f.scope (-1) (own f.d)
 let p:Pl:=⟨s,s,f.strict⟩
 let r:=Qm F p (Px (Oa f.d 1)) none (QB f.d p args σ1)
 ((r.1.1.v,r.1.2.1),r.2)
def SK (t:Tr):List Ou:=Py t++(TN t).map Tr.tx
def agF (M:Mo)(nm:Ou)(stop:Int):Nat->Int->Bool
 | 0,_=>false
 | f+1,s=>if s = -1 then false else if M.kindOf s nm=1\/M.kindOf s nm=2 then true else if s=stop then false else agF M nm stop f (M.outOf s)
def hidden (M:Mo)(t:Tr)(p:Pl):Bool:=(SK t).any fun nm=>agF M nm p.declares (M.Ov.length+1) p.scope
def loosen (s:Int)(nm:Ou)(σ:St):St:=if σ.M.has s nm then σ else if σ.M.QX s≠-1 then σ.Qx (σ.M.QX s) nm vU false else σ.dec s nm 4 vU
def OB (d:Nd)(p:Pl)(σ:St):Pl × St:=
 let σ1:=(SK d.2).foldl (fun σ nm=>loosen p.declares nm σ) σ
 let q:Pl × St:=if 0<(OZ d.2).length then ({ p with scope:=σ1.top },PN (OZ d.2) σ1.top (σ1.opn p.scope (-1) (-3))) else (p,σ1)
 (q.1,(SX d).foldl (fun σ k=>let r:=mkFun k q.1 σ;{ r.2 with M:=(r.2.M.write q.1.declares k.2.tx r.1).2 }) q.2)
def X9 (d:Nd)(p:Pl)(σ:St):(Va × Er) × St:=
 let st:=p.strict||OU d.2
 if !st&&hidden σ.M d.2 { p with strict:=st } then ((vU,bad Uk),σ) else
  let q:Pl × St:=if st then (⟨σ.top,σ.top,true⟩,σ.opn p.scope (-1) (-3)) else ({ p with strict:=st },σ)
  let bB:=OB d q.1 q.2
  let r:=Qm F bB.1 (Px d) (some vU) bB.2
  match r.1.2.1 with
  | .no=>((r.1.2.2.getD vU,.no),r.2)
  | e=>((vU,e),r.2)
def Ya (callee:Tr)(p:Pl)(args:List Va)(σ:St):(Va × Er) × St:=
 match args with
 | []=>((vU,.no),σ)
 | a::_=>if a.k≠4 then ((a,.no),σ) else
  let cu:Pl:=if callee.kd≠23\/callee.tx≠RH then ⟨1,0,false⟩ else p
  within σ fun σ=>match Qu O4 O0 a.s with
   | .ok t=>match chk t cu.strict false false with
    | none=>X9 F (none,t) cu σ
    | some _=>((vU,bad Uk),σ)
   | _=>((vU,bad Uk),σ)
def XF (d:Nd)(p:Pl)(σ:St):(Va × Er) × St:=
 match Tn F p (Px d) [] σ with
 | ((f::args,.no),σ1)=>
  if f.k≠5 then ((vU,bad tType),σ1) else
  let c:=σ1.M.codeOf f.n
  if c=0 then ((vU,bad tType),σ1)
  else if c=1 then ((vU,.no),{ σ1 with log:=σ1.log++[XE (args.map σ1.M.shw)] })
  else if c=2 then Ya F (Oa d 0).2 p args σ1
  else match σ1.Qg[(c - 3).toNat]? with
   | some fn=>VE F fn args σ1
   | none=>((vU,.no),σ1)
 | ((_,e),σ1)=>((vU,e),σ1)
def Sl (d:Nd)(p:Pl)(σ:St):(Int × Er) × St:=match F.v d p σ with
 | ((v,.no),σ1)=>if v.k≠5 then ((-1,bad tType),σ1) else ((v.n,.no),σ1)
 | ((_,e),σ1)=>((-1,e),σ1)
def Xp (p:Pl)(o:Int):List Nd->St->(Va × Er) × St
 | [],σ=>((SQ o,.no),σ)
 | k::ks,σ=>match F.v (Oa k 0) p σ with
  | ((v,.no),σ1)=>Xp p o ks (σ1.Qx o k.2.tx v false)
  | ((_,e),σ1)=>((vU,e),σ1)
def aeA (d:Nd)(p:Pl)(σ:St):(Va × Er) × St:=
 let t0:=Oa d 0
 if t0.2.kd=36 then
  match F.v (Oa t0 0) p σ with
  | ((ob,.no),σ1)=>match F.v (Oa d 1) p σ1 with
   | ((v,.no),b6)=>if ob.k≠5 then ((vU,bad tType),b6) else ((v,erP (b6.M.put ob.n t0.2.tx v false).1),b6.Qx ob.n t0.2.tx v false)
   | ((_,e),b6)=>((vU,e),b6)
  | ((_,e),σ1)=>((vU,e),σ1)
 else
  let r:=look t0 p σ
  match F.v (Oa d 1) p r.2 with
  | ((v,.no),σ1)=>let a:=Zj r.1 t0.2.tx v p.strict σ1;((v,a.1),a.2)
  | ((_,e),σ1)=>((vU,e),σ1)
def Zt (d:Nd)(p:Pl)(σ:St):(Va × Er) × St:=
 let k:=Oa d 0
 if k.2.kd=23 then
  let r:=σ.M.drop (σ.M.find p.scope k.2.tx) k.2.tx
  ((PX r.1,.no),{ σ with M:=r.2 })
 else if k.2.kd=36 then
  match Sl F (Oa k 0) p σ with
  | ((o,.no),σ1)=>let r:=σ1.M.cut o k.2.tx;if !r.1&&p.strict then ((vU,bad tType),{ σ1 with M:=r.2 }) else ((PX r.1,.no),{ σ1 with M:=r.2 })
  | ((_,e),σ1)=>((vU,e),σ1)
 else match F.v k p σ with
  | ((_,.no),σ1)=>((PX true,.no),σ1)
  | ((_,e),σ1)=>((vU,e),σ1)
def YB (d:Nd)(p:Pl)(qW:St):(Va × Er) × St:=
 let σ:=qW.step
 let t:=d.2
 if 20000<σ.steps then ((vU,.stop),σ)
 else if t.kd=17 then ((V7 t.n,.no),σ)
 else if t.kd=18 then ((VD t.tx,.no),σ)
 else if t.kd=19\/t.kd=20 then ((PX (decide (t.kd=19)),.no),σ)
 else if t.kd=21 then ((agD,.no),σ)
 else if t.kd=23 then
  let r:=look d p σ
  let x:=r.2.M.read r.1 t.tx
  if x.2=0 then ((x.1,.no),r.2) else ((vU,bad QN),r.2)
 else if t.kd=24 then aeA F d p σ
 else if t.kd=25\/t.kd=26 then match F.v (Oa d 0) p σ with
  | ((v,.no),σ1)=>if v.tru=decide (t.kd=25) then ((v,.no),σ1) else F.v (Oa d 1) p σ1
  | r=>r
 else if 27<=t.kd/\t.kd<=31 then match Tn F p (Px d) [] σ with
  | ((a::b::_,.no),σ1)=>(UO σ1.M t.kd a b,σ1)
  | ((_,e),σ1)=>((vU,e),σ1)
 else if t.kd=32 then match F.v (Oa d 0) p σ with
  | ((v,.no),σ1)=>((PX (!v.tru),.no),σ1)
  | ((_,e),σ1)=>((vU,e),σ1)
 else if t.kd=33 then
  if (Oa d 0).2.kd=23/\σ.M.find p.scope (Oa d 0).2.tx = -1 then ((VD Rf,.no),σ)
  else match F.v (Oa d 0) p σ with
   | ((v,.no),σ1)=>((VD (Vq σ1.M v),.no),σ1)
   | ((_,e),σ1)=>((vU,e),σ1)
 else if t.kd=34 then Zt F d p σ
 else if t.kd=35 then XF F d p σ
 else if t.kd=36 then match Sl F (Oa d 0) p σ with
  | ((o,.no),σ1)=>((((σ1.M.prop o t.tx).map Pr.v).getD vU,.no),σ1)
  | ((_,e),σ1)=>((vU,e),σ1)
 else if t.kd=37 then let r:=Uz d p σ;((r.1,.no),r.2)
 else if t.kd=38 then Xp F p σ.M.objs.length (Px d) { σ with M:=σ.M.OY 0 }
 else ((vU,.no),σ)
def Tq (aW:List Nd)(p:Pl)(σ:St):(Va × Er) × St:=match aW with
 | []=>((vU,.no),σ)
 | d::_=>F.v d p σ
def WV (d:Nd)(p:Pl):Nat->Option Va->St->(Oc × Er × Option Va) × St
 | 0,l,σ=>((Qy,.stop,l),σ)
 | k+1,l,σ=>match F.v (Oa d 0) p σ with
  | ((v,.no),σ1)=>if v.tru then match F.s (Oa d 1) p l σ1 with
    | ((o,.no,bQ),b6)=>if o.ret then ((o,.no,bQ),b6) else WV d p k bQ b6
    | r=>r
   else ((Qy,.no,l),σ1)
  | ((_,e),σ1)=>((Qy,e,l),σ1)
def XJ (d:Nd)(p:Pl)(o:Oc)(e:Er)(l:Option Va)(σ:St):(Oc × Er × Option Va) × St:=match e with
 | .X8 v=>
  let s:=σ.top
  F.s (Oa d 0) { p with scope:=s } l ((σ.opn p.scope (-1) (own d)).dec s d.2.tx 0 v)
 | e=>((o,e,l),σ)
def VY (d:Nd)(p:Pl)(o:Oc)(e:Er)(l:Option Va)(σ:St):(Oc × Er × Option Va) × St:=match e with
 | .stop=>((o,.stop,l),σ)
 | e=>match F.s (Oa d 0) p l σ with
  | ((bH,.no,bQ),σ1)=>if bH.ret then ((bH,.no,bQ),σ1) else ((o,e,bQ),σ1)
  | r=>r
def aad (p:Pl):List Nd->Oc->Er->Option Va->St->(Oc × Er × Option Va) × St
 | [],o,e,l,σ=>((o,e,l),σ)
 | k::ks,o,e,l,σ=>
  let r:=if k.2.kd=13 then XJ F k p o e l σ else VY F k p o e l σ
  aad p ks r.1.1 r.1.2.1 r.1.2.2 r.2
def stF (fuel:Nat)(d:Nd)(p:Pl)(l:Option Va)(qW:St):(Oc × Er × Option Va) × St:=
 let σ:=qW.step
 let t:=d.2
 if 20000<σ.steps then ((Qy,.stop,l),σ)
 else if t.kd=2 then
  if t.kids.length=0 then ((Qy,.no,l),σ) else
  let s:=σ.M.find p.scope t.tx
  match F.v (Oa d 0) p σ with
  | ((v,.no),σ1)=>let a:=Zj s t.tx v p.strict σ1;((Qy,a.1,l),a.2)
  | ((_,e),σ1)=>((Qy,e,l),σ1)
 else if t.kd=3\/t.kd=4 then match Tq F (Px d) p σ with
  | ((v,.no),σ1)=>((Qy,erP (σ1.M.start p.scope t.tx v).1,l),{ σ1 with M:=(σ1.M.start p.scope t.tx v).2 })
  | ((_,e),σ1)=>((Qy,e,l),σ1)
 else if t.kd=6 then let b:=Ph d p σ;Qm F b.1 (Px d) l b.2
 else if t.kd=7 then match F.v (Oa d 0) p σ with
  | ((v,.no),σ1)=>if v.tru then F.s (Oa d 1) p l σ1 else if 2<t.kids.length then F.s (Oa d 2) p l σ1 else ((Qy,.no,l),σ1)
  | ((_,e),σ1)=>((Qy,e,l),σ1)
 else if t.kd=8 then WV F d p fuel l σ
 else if t.kd=9 then match Sl F (Oa d 0) p σ with
  | ((o,.no),σ1)=>F.s (Oa d 1) { p with scope:=σ1.top } l (σ1.opn p.scope o (-2))
  | ((_,e),σ1)=>((Qy,e,l),σ1)
 else if t.kd=10 then match Tq F (Px d) p σ with
  | ((v,.no),σ1)=>((⟨true,v⟩,.no,l),σ1)
  | ((v,e),σ1)=>((⟨false,v⟩,e,l),σ1)
 else if t.kd=11 then match F.v (Oa d 0) p σ with
  | ((v,.no),σ1)=>((Qy,.X8 v,l),σ1)
  | ((_,e),σ1)=>((Qy,e,l),σ1)
 else if t.kd=12 then
  let r:=F.s (Oa d 0) p l σ
  aad F p (Px d).tail r.1.1 r.1.2.1 r.1.2.2 r.2
 else if t.kd=15 then match F.v (Oa d 0) p σ with
  | ((v,.no),σ1)=>((Qy,.no,l.map fun _=>v),σ1)
  | ((_,e),σ1)=>((Qy,e,l),σ1)
 else ((Qy,.no,l),σ)
end
def fx:Nat->Fx
 | 0=>⟨fun _ _ σ=>((vU,.stop),σ),fun _ _ l σ=>((Qy,.stop,l),σ)⟩
 | f+1=>⟨YB (fx f),stF (fx f) f⟩
def Qb:St:=
 let M1:=((⟨[],[]⟩:Mo).OY 0).scope (-1) 0
 let M2:=M1.scope 0 (-1)
 let M3:=((M2.OY 1).put 0 UM (SQ 1) false).2
 let M4:=((M3.OY 2).put 0 RH (SQ 2) false).2
 ⟨M4,[],0,[],[-1,0],[],0⟩
def Qr (t:Tr):Er × St:=
 let bB:=Pq (some 0,t) Qb
 let r:=Qm (fx 20002) bB.1 (Px (some 0,t)) none bB.2
 (r.1.2.1,r.2)
end Hp
inductive Ad where
 | mk (p:Nat) (kd:Int) (tx:Ou) (n:Int) (ks:List Ad)
def Ad.p:Ad->Nat | .mk p _ _ _ _=>p
def Ad.kd:Ad->Int | .mk _ kd _ _ _=>kd
def Ad.tx:Ad->Ou | .mk _ _ tx _ _=>tx
def Ad.ks:Ad->List Ad | .mk _ _ _ _ ks=>ks
mutual
def Ad.tr:Ad->Tr
 | .mk _ kd tx n ks=>.mk kd tx n (Ad.trs ks)
def Ad.trs:List Ad->List Tr
 | []=>[]
 | a::es=>a.tr::Ad.trs es
end
mutual
def Ad.UY:Ad->List Nat
 | .mk p _ _ _ ks=>p::Ad.SL ks
def Ad.SL:List Ad->List Nat
 | []=>[]
 | a::es=>a.UY++Ad.SL es
end
mutual
def Ri (I:Nat->Prop)(w:Og):Ad->Prop
 | .mk p kd tx n ks=>PO I w (.mk kd tx n (Ad.trs ks)) p/\I p/\(∃ v,w.heap[p]? = some (O7 kd tx n v)/\ank I w v (ks.map Ad.p))/\QM I w ks
def QM (I:Nat->Prop)(w:Og):List Ad->Prop
 | []=>True
 | a::es=>Ri I w a/\QM I w es
end
def QM.mem {I:Nat->Prop}{w:Og}:∀ (es:List Ad),QM I w es->∀ a ∈ es,Ri I w a
 | [],_,_,h=>absurd h OW
 | x::es,h,a,ay=>by
  rw[QM] at h
  rcases List.mem_cons.1 ay with rfl|ay
  ·exact h.1
  ·exact QM.mem es h.2 a ay
mutual
def Ri.later {I:Nat->Prop}{w w':Og}(ab:U3 I w w'):∀ a:Ad,Ri I w a->Ri I w' a
 | .mk p kd tx n ks,h=>by
  rw[Ri] at h ⊢;obtain⟨ax,al,⟨v,A,aa⟩,E⟩:=h;exact⟨PO.later ab _ _ ax,al,⟨v,by rw[ab p al (lt_of_heap A)];exact A,Q8 ab aa.2 aa.1,aa.2⟩,QM.later ab ks E⟩
def QM.later {I:Nat->Prop}{w w':Og}(ab:U3 I w w'):∀ es:List Ad,QM I w es->QM I w' es
 | [],_=>by rw[QM];trivial
 | a::es,h=>by
  rw[QM] at h ⊢;exact⟨Ri.later ab a h.1,QM.later ab es h.2⟩
end
mutual
def Ri.mono {I J:Nat->Prop}{w:Og}(my:∀ b,I b->b<w.heap.size->J b):∀ a:Ad,Ri I w a->Ri J w a
 | .mk p kd tx n ks,h=>by
  rw[Ri] at h ⊢;obtain⟨ax,al,⟨v,A,aa⟩,E⟩:=h;exact⟨PO.mono my _ _ ax,my p al (lt_of_heap A),⟨v,A,aa.1,fun g hg=>my g (aa.2 g hg) (P6 aa.1 g hg).1⟩,QM.mono my ks E⟩
def QM.mono {I J:Nat->Prop}{w:Og}(my:∀ b,I b->b<w.heap.size->J b):∀ es:List Ad,QM I w es->QM J w es
 | [],_=>by rw[QM];trivial
 | a::es,h=>by
  rw[QM] at h ⊢;exact⟨Ri.mono my a h.1,QM.mono my es h.2⟩
end
def aa4:∀ es:List Ad,Ad.trs es=es.map Ad.tr
 | []=>by rw[Ad.trs];rfl
 | a::es=>by rw[Ad.trs,aa4 es];rfl
def Ad.ajY (a:Ad):a.tr.kd=a.kd/\a.tr.tx=a.tx/\a.tr.kids=a.ks.map Ad.tr:=by
 cases a with
 | mk p kd tx n ks=>rw[Ad.tr,aa4];exact⟨rfl,rfl,rfl⟩
def Ri.parts {I:Nat->Prop}{w:Og}{a:Ad}(h:Ri I w a):∀ k ∈ a.ks,Ri I w k:=by
 cases a with
 | mk p kd tx n ks=>rw[Ri] at h;exact QM.mem ks h.2.2.2
mutual
def PO.ad {I:Nat->Prop}{w:Og}:∀ (t:Tr) (p:Nat),PO I w t p->∃ a:Ad,a.tr=t/\a.p=p/\Ri I w a/\a.UY.Nodup/\∀ b ∈ a.UY,I b
 | .mk kd tx n ks,p,h=>by
  have ax:=h;rw[PO] at h;obtain⟨al,v,ps,A,aa,E⟩:=h;have⟨es,h1,U,av,aN,bx⟩:=Oz.UY ks ps E;refine⟨.mk p kd tx n es,by rw[Ad.tr,aa4,h1],rfl,?_,?_,?_⟩
  ·rw[Ri,U,aa4,h1];exact⟨ax,al,⟨v,A,aa⟩,QM.mono (fun b A _=>A.1) es av⟩
  ·rw[Ad.UY,List.nodup_cons];exact⟨fun aR=>(bx p aR).2 rfl,aN⟩
  ·rw[Ad.UY];intro b A
   rcases List.mem_cons.1 A with rfl|A
   ·exact al
   ·exact(bx b A).1
def Oz.UY {I:Nat->Prop}{w:Og}:∀ (ap:List Tr) (ps:List Nat),Oz I w ap ps->∃ es:List Ad,es.map Ad.tr=ap/\es.map Ad.p=ps/\QM I w es/\(Ad.SL es).Nodup/\∀ b ∈ Ad.SL es,I b
 | [],ps,h=>by
  rw[Oz] at h;subst h;exact⟨[],rfl,rfl,by rw[QM];trivial,by rw[Ad.SL];exact List.nodup_nil,by rw[Ad.SL];intro b A;cases A⟩
 | t::ap,ps,h=>by
  rw[Oz] at h;obtain⟨p,eH,M,rfl,h1,U⟩:=h;have⟨a,j4,a2,a3,a4,a5⟩:=PO.ad t p h1;have⟨es,dn,b2,em,oF,CZ⟩:=Oz.UY ap eH U;refine⟨a::es,by rw[List.map_cons,j4,dn],by rw[List.map_cons,a2,b2],?_,?_,?_⟩
  ·rw[QM];exact⟨Ri.mono (fun b A _=>A.1) a a3,QM.mono (fun b A _=>A.1) es em⟩
  ·rw[Ad.SL,List.nodup_append];refine⟨a4,oF,fun x ac y hy e=>?_⟩;have hb:=(a5 x ac).2;have hu:=(CZ y hy).2;omega
  ·rw[Ad.SL];intro b A
   rcases List.mem_append.1 A with A|A
   ·exact(a5 b A).1
   ·exact(CZ b A).1
end
section
variable {I:Nat->Prop} {w:Og} {a:Ad} (h:Ri I w a)
include I w a h
def Ri.cells:I a.p/\a.p<w.heap.size/\w.cell? (N9 a.p 0)=some (NY a.kd)/\w.cell? (N9 a.p 1)=some (Oj a.tx) /\
  ∃ v,w.cell? (N9 a.p 3)=some v/\ank I w v (a.ks.map Ad.p):=by
 cases a with
 | mk p kd tx n ks=>
  rw[Ri] at h;obtain⟨_,al,⟨v,A,aa⟩,_⟩:=h;have⟨c0,c1,_,c3,_⟩:=node_cells A;exact⟨al,lt_of_heap A,c0,c1,v,c3,aa⟩
def Ri.nat:PO I w a.tr a.p:=by
 cases a with
 | mk p kd tx n ks=>rw[Ri] at h;rw[Ad.tr];exact h.1
end
mutual
def Ad.cnt:Ad->Nat
 | .mk _ _ _ _ ks=>1+Ad.cnts ks
def Ad.cnts:List Ad->Nat
 | []=>0
 | a::es=>a.cnt+Ad.cnts es
end
mutual
def Ad.ad8:∀ a:Ad,a.tr.count=a.cnt
 | .mk p kd tx n ks=>by rw[Ad.tr,count_mk,Ad.cnt,Ad.ajZ ks]
def Ad.ajZ:∀ es:List Ad,Tr.counts (Ad.trs es)=Ad.cnts es
 | []=>by rw[Ad.trs,Ad.cnts,OL]
 | a::es=>by rw[Ad.trs,OD,Ad.cnts,Ad.ad8 a,Ad.ajZ es]
end
mutual
def Ad.aj0:∀ a:Ad,a.UY.length=a.cnt
 | .mk p kd tx n ks=>by rw[Ad.UY,List.length_cons,Ad.afO ks,Ad.cnt,Nat.add_comm]
def Ad.afO:∀ es:List Ad,(Ad.SL es).length=Ad.cnts es
 | []=>by rw[Ad.SL,Ad.cnts];rfl
 | a::es=>by rw[Ad.SL,List.length_append,Ad.aj0 a,Ad.afO es,Ad.cnts]
end
def afP:∀ a b:List Ad,Ad.SL (a++b)=Ad.SL a++Ad.SL b
 | [],b=>by rw[Ad.SL];rfl
 | x::a,b=>by rw[List.cons_append,Ad.SL,Ad.SL,afP a b,List.append_assoc]
def aj1 (a:Ad):1<=a.cnt:=by cases a with|mk p kd tx n ks=>rw[Ad.cnt];omega
def afQ:∀ es:List Ad,es.length<=Ad.cnts es
 | []=>Nat.zero_le _
 | a::es=>by
  have h1:=aj1 a;have U:=afQ es;rw[Ad.cnts,List.length_cons];omega
def afR:∀ (es:List Ad) (a:Ad),a ∈ es->a.cnt<=Ad.cnts es
 | [],_,h=>absurd h OW
 | x::es,a,h=>by
  rw[Ad.cnts]
  rcases List.mem_cons.1 h with rfl|h
  ·omega
  ·have:=afR es a h;omega
def anl (a:Ad):a.cnt=1+Ad.cnts a.ks:=by cases a with|mk p kd tx n ks=>rw[Ad.cnt];rfl
def abh (a:Ad):a.UY=a.p::Ad.SL a.ks:=by cases a with|mk p kd tx n ks=>rw[Ad.UY];rfl
mutual
def wk {α:Type}(f:α->Ad->α × Bool):α->Ad->α
 | a,.mk p kd tx n ks=>if (f a (.mk p kd tx n ks)).2 then wks f (f a (.mk p kd tx n ks)).1 ks else (f a (.mk p kd tx n ks)).1
def wks {α:Type}(f:α->Ad->α × Bool):α->List Ad->α
 | a,[]=>a
 | a,k::ks=>wks f (wk f a k) ks
end
def aFT {α:Type}(f:α->Ad->α × Bool)(a:α)(t:Ad):wk f a t=if (f a t).2 then wks f (f a t).1 t.ks else (f a t).1:=by
 cases t with
 | mk p kd tx n ks=>rw[wk];rfl
def alk {α:Type}(f:α->Ad->α × Bool):∀ (l m:List Ad) (a:α),wks f a (l++m)=wks f (wks f a l) m
 | [],m,a=>by rw[List.nil_append,wks]
 | k::l,m,a=>by rw[List.cons_append,wks,wks,alk f l m]
def aq7 {α:Type}(f:α->Ad->α × Bool)(l:List Ad)(a:α)(k:Nat)(E:k<l.length):wks f a (l.take (k+1))=wk f (wks f a (l.take k)) l[k]:=by
 rw[List.take_succ_eq_append_getElem E,alk,wks,wks]
def au4 {α:Type}(F:Nat)(x:Ot)(I:Nat->Prop)(sD:Og->Og->Prop)(vF:α->Og->Prop)(f:α->Ad->α × Bool)(P:α->List Ad->Prop)
  (jv:VH F) (hv:∀ W:Og,(binOp .eql 47 (.func (.func F) #[] #[x]) .nilFunc).run prog W=.ok (Om false) W)
  (Ew:∀ a b c,sD a b->sD b c->sD a c) (Et:∀ w w',sD w w'->U3 I w w'/\w.heap.size<=w'.heap.size)
  (hP:∀ a t ap,P a (t::ap)->P (f a t).1 ((if (f a t).2 then t.ks else [])++ap))
  (bC:∀ a t ap w,P a (t::ap)->vF a w->Ri I w t->Oq F #[N7 t.p,x] w fun e w'=>e=OA (Om (f a t).2)/\vF (f a t).1 w'/\sD w w') :
  ∀ (m:Nat) (t:Ad),t.cnt<=m->m<=90000->∀ (ap:List Ad) (a:α) (w:Og),P a (t::ap)->vF a w->Ri I w t ->
   Oq 36 #[N7 t.p,.func (.func F) #[] #[x]] w fun e w'=>e=OA (.tuple #[])/\vF (wk f a t) w'/\P (wk f a t) ap/\sD w w':=by
 intro m
 induction m with
 | zero=>intro t aZ;have:=aj1 t;omega
 | succ m bv=>
  intro t aZ aR ap a w n6 az eG;obtain⟨Dn,eM,_,_,v,fT,hrow,pT⟩:=eG.cells;have hlen:(t.ks.map Ad.p).length=t.ks.length:=List.length_map _;have⟨cV,uc,aQ⟩:=UL hrow;subst aQ;rw[hlen] at fT;have aj:=(bC a t ap w n6 az eG);have sj:=hide (hP a t ap n6);have ft:=hide (aFT f a t);have pi:=hide eG.parts;have vq:=hide pT;have nC:=hide (bv);have vg:=hide aZ;have FR:=hide aR;have cT:=hide fT;have qd:=hide eM;have Ca:=hide Dn;have HLEN:=hide hlen;have xD:=hide Ew;have CF:=hide Et
  have rv:t.ks.length<=90000:=by have h1:=afQ t.ks;have U:=anl t;omega
  clear bC hP az pT bv aZ aR fT eM Dn hlen Ew Et n6;have⟨p,al⟩:=xE t.p;rw[<-al] at aj cT qd Ca ⊢;clear al
  cases ac:(f a t).2 with
  | false=>
   rw[ac] at aj sj ft;clear ac;have z:=N8 (∀{G}(h:G:=by
   have ib:=hide jg;have eq:=hide ha1;clear jg ha1;go_wp2_with fail;exact UC (v:=.tuple #[]) ⟨rfl,by rw[ft.out];exact ib.out,by rw[ft.out];exact sj.out,eq.out⟩),G);exact ar4
  | true=>
   rw[ac] at aj sj ft;clear ac;have⟨j4,ha1⟩:=xE ((f a t).1);rw[<-ha1] at aj sj ft;clear ha1;have z:=N8 (∀{G}(h:G:=by
   have⟨gj,b8⟩:=NZ CF _ _ ha1;have dV:w1.cell? (N9 p 3)=some (.slice cV t.ks.length uc):=by rw[World.cell?_of_block (w:=w) (gj p Ca.out qd.out)];exact NZ cT
   have I3:p<w1.heap.size:=Nat.lt_of_lt_of_le qd.out b8;have ib:=hide jg;have eq:=hide ha1;clear jg ha1 b8;go_wp2_with fail
   go_loopw [23] (fun i wr=>∃ k:Nat,k<=t.ks.length/\i=NY k/\vF (wks f j4 (t.ks.take k)) wr/\P (wks f j4 (t.ks.take k)) (t.ks.drop k++ap)/\sD w wr) (fun i _=>t.ks.length - (intOf i).toNat)
   case atStart=>exact⟨0,Nat.zero_le _,rfl,by rw[List.take_zero,wks];exact ib.out,by rw[List.take_zero,wks];exact sj.out,eq.out⟩
   case round=>
    obtain⟨k,E,rfl,hg,qG,gx⟩:=hrel;have vf:=hide hg;have mi:=hide qG;have yF:=hide gx;clear hg gx qG
    by_cases aM:k<t.ks.length
    ·have z:=N8 (∀{G}(h:G:=by
     have c':k<(t.ks.map Ad.p).length:=by rw[HLEN.out];exact aM
     have us:=NZ vq g rfl;have dC:=(P6 hrow g rfl).1;have⟨iI,cn⟩:=NZ CF _ _ yF.out;have⟨q,ag⟩:=xE ((t.ks[k]).p);have eJ:wr.cell? (N9 g k)=some (N7 q):=by
      rw[World.cell?_of_block (w:=w) (a:=(N9 g k)) (iI g us dC),hcell k c',List.getElem_map,ag]
     have mF:Ri I wr t.ks[k]:=Ri.later iI _ (NZ pi _ (List.getElem_mem aM));have AA:g<wr.heap.size:=Nat.lt_of_lt_of_le dC cn;have m':(t.ks[k]).cnt<=m:=by
      have h1:=afR t.ks _ (List.getElem_mem aM);have U:=anl t;have av:=NZ vg;omega
     have qG:=NZ mi;rw[List.drop_eq_getElem_cons aM,List.cons_append] at qG;have aj:=(nC.out t.ks[k] m' (by have:=NZ FR;omega) (t.ks.drop (k+1)++ap) _ wr qG vf.out mF)
     have tR:=hide (aq7 f t.ks j4 k aM);rw[<-ag] at aj;have hK:(k:Int)<(t.ks.length:Int):=Oe;clear hcell m' qG cn ag;go_wp2_with fail;refine cm aj ?_;rintro e w2 ⟨rfl,eI,bb,ha2⟩;have hq:=hide eI;have b7:=hide bb;have eg:=hide (NZ xD _ _ _ yF.out ha2);clear eI ha2 bb eJ;go_wp2
     go_roundw
     case rel=>exact⟨k+1,by omega,by go_num,by rw[tR.out];exact hq.out,by rw[tR.out];exact b7.out,eg.out⟩
     case measure=>simp[intOf];omega),G);exact avN
    ·have eK:k=t.ks.length:=Oe;subst eK;go_wp2
     go_end0
     have h1:=NZ vf;have U:=NZ mi;rw[List.take_length] at h1 U;rw[List.drop_length,List.nil_append] at U;rw[ft.out];exact⟨rfl,h1,U,yF.out⟩),G);exact ar4
def mkP (e:(Nat × Ot) × Nat):MapEntry:={ key:=N7 e.1.1,val:=e.1.2,born:=e.2 }
def W9 (l:List (Nat × Ot)):Array MapEntry:=((l.zipIdx).map mkP).toArray
def Cl (W:Og)(p:Nat):Prop:=∃ cs t,W.heap[p]? = some (OM cs t)
def aHh (W:Og):(sizeOf 40).run prog W=.ok 4 W:=by kernel_rfl
def aym {W:Og}{p q:Nat}(al:Cl W p)(ag:Cl W q):(Op.equal 22 (N7 p) (N7 q)).run prog W=.ok (decide (p=q)) W:=by
 obtain⟨ca,ta,ay⟩:=al;obtain⟨cb,tb,A⟩:=ag;have rk:=underlying22
 show (Op.equalIn (9999+1) 22 (N7 p) (N7 q)).run prog W=_
 rw[Op.equalIn,Sem.run_bind,run_underlying rk W];simp only[Result.andThen_ok,Sem.run_bind,aHh]
 by_cases h:p=q
 ·subst h;rw[decide_eq_true rfl];exact run_sameAddr_same _ _
 ·rw[decide_eq_false h];exact run_sameAddr_other W (a:=(N9 p 0)) (b:=(N9 q 0)) (fun e=>h (by cases e;rfl)) ay A
def ahq {W:Og}{p:Nat}(al:Cl W p):∀ (l:List (Nat × Ot)) (n i:Nat),(∀ e ∈ l,Cl W e.1) ->
  ∃ o,(Instr.findAsking 22 (N7 p) ((l.zipIdx n).map mkP) i).run prog W=.ok o W/\o.map (·.2)=(l.find? (fun e=>decide (p=e.1))).map (·.2)
 | [],_,_,_=>⟨none,rfl,rfl⟩
 | e::l,n,i,h=>by
  have h1:=aym al (h e OW);simp only[List.zipIdx_cons,List.map_cons,Instr.findAsking,mkP,Sem.run_bind,h1,Result.andThen_ok,List.find?_cons]
  cases hd:decide (p=e.1)
  ·simp only[Bool.false_eq_true,if_false];exact ahq al l (n+1) (i+1) (fun e ao=>h e (by simp[ao]))
  ·exact⟨some (i,e.2),rfl,rfl⟩
def akw {W:Og}{p:Nat}(al:Cl W p)(l:List (Nat × Ot))(h:∀ e ∈ l,Cl W e.1) :
  ∃ o,(Instr.findKey 22 (N7 p) (W9 l).toList).run prog W=.ok o W/\o.map (·.2)=(l.find? (fun e=>decide (p=e.1))).map (·.2):=by
 have rk:=underlying22
 cases l with
 | nil=>
  refine⟨none,?_,rfl⟩;unfold Instr.findKey;rw[Sem.run_bind,run_underlying rk W];rfl
 | cons e l=>
  have⟨o,h1,U⟩:=ahq al (e::l) 0 0 h;refine⟨o,?_,U⟩;unfold Instr.findKey;rw[Sem.run_bind,run_underlying rk W];simp only[Result.andThen_ok,W9];exact h1
def amP (l:List (Nat × Ot))(k:Nat)(v:Ot):(W9 l).push { key:=N7 k,val:=v,born:=l.length }=W9 (l++[(k,v)]):=by
 unfold W9;rw[List.zipIdx_append,List.map_append];simp[mkP,List.zipIdx]
def ajy (m:Nat)(l:List (Nat × Ot))(p:Nat)(v:Ot)(W:Og)(aR:W.heap[m]? = some (.map (W9 l) l.length))(al:Cl W p)(hl:∀ e ∈ l,Cl W e.1)(ax:l.find? (fun e=>decide (p=e.1))=none) :
  (Instr.mapUpdate 80 (.map (some m)) (N7 p) v).run prog W=.ok () (Qz W m (.map (W9 (l++[(p,v)])) (l.length+1))):=by
 have⟨o,av,U⟩:=akw al l hl;have rk:=underlying22;have z7:=underlying80;have aO:o=none:=by
  rw[ax] at U
  cases o with
  | none=>rfl
  | some y=>simp at U
 subst aO;have eJ:∀ b,(Instr.checkKey b 10000 22 (N7 p)).run prog W=.ok () W:=by
  intro b;rw[Instr.checkKey,Sem.run_bind,run_underlying rk W];rfl
 have hg:(getObj m).run prog W=.ok (.map (W9 l) l.length) W:=by simp[getObj,Sem.run,aR]
 unfold Instr.mapUpdate;rw[Sem.run_bind,run_underlying z7 W];simp only[Result.andThen_ok,Sem.run_bind,hg,eJ,av];rw[amP];simp[setObj,Sem.run,aR,Qz]
def at7 (l:List (Nat × Ot)):(W9 l).size=l.length:=by simp[W9]
def V9 (l:List Nat):List (Nat × Ot):=l.zipIdx.map fun e=>(e.1,NY (e.2:Int))
def acy (l:List Nat):(V9 l).length=l.length:=by simp[V9]
def amQ (l:List Nat)(p:Nat):V9 (l++[p])=V9 l++[(p,NY (l.length:Int))]:=by
 simp[V9,List.zipIdx_append,List.zipIdx]
def ab6 {l:List Nat}{e:Nat × Ot}(h:e ∈ V9 l):e.1 ∈ l:=by
 unfold V9 at h;obtain⟨x,ac,rfl⟩:=List.mem_map.1 h;obtain⟨cy,dO⟩:=x;have:=List.mem_zipIdx ac;simp only;rw[this.2.2];exact List.getElem_mem _
def adP {p:Nat}{l:List Nat}(h:p ∉ l):(V9 l).find? (fun e=>decide (p=e.1))=none:=by
 rw[List.find?_eq_none];intro e ao;have:=ab6 ao;simp only[decide_eq_true_eq];rintro rfl;exact h this
structure Nms (mb nb:Nat)(l:List Nat)(w:Og):Prop where
 word:w.heap[nb]? = some (OM #[.map (some mb)] 80)
 map:w.heap[mb]? = some (.map (W9 (V9 l)) l.length)
 old:∀ p ∈ l,Cl w p
def nmF (l:List Nat)(t:Ad):List Nat × Bool:=(l++[t.p],true)
mutual
def au3:∀ (t:Ad) (l:List Nat),wk nmF l t=l++t.UY
 | .mk p kd tx n ks,l=>by
  rw[wk,Ad.UY];simp only[nmF,if_true];rw[show (Ad.mk p kd tx n ks).p=p from rfl,aqg ks,List.append_assoc];rfl
def aqg:∀ (ap:List Ad) (l:List Nat),wks nmF l ap=l++Ad.SL ap
 | [],l=>by rw[wks,Ad.SL,List.append_nil]
 | t::ap,l=>by rw[wks,au3 t,aqg ap,Ad.SL,List.append_assoc]
end
def Ri.cl {I:Nat->Prop}{w:Og}{a:Ad}(h:Ri I w a):Cl w a.p:=by
 cases a with
 | mk p kd tx n ks=>
  rw[Ri] at h;obtain⟨_,_,⟨v,A,_⟩,_⟩:=h;exact⟨_,_,A⟩
def ahr {mb nb:Nat}{l:List Nat}{t:Ad}{I:Nat->Prop}{w:Og}(hN:Nms mb nb l w)(aZ:Ri I w t)(al:t.p ∉ l) :
  Oq 73 #[N7 t.p,Oy nb 0] w fun e w'=>e=OA (Om true)/\w'=Qz w mb (.map (W9 (V9 (l++[t.p]))) (l.length+1)):=by
 have hw:w.cell? (N9 nb 0)=some (.map (some mb)):=by rw[cell_of hN.word];rfl
 have aQ:=ajy mb (V9 l) t.p (NY (l.length:Int)) w (by rw[acy];exact hN.map) aZ.cl (fun e ao=>hN.old _ (ab6 ao)) (adP al)
 rw[acy,<-amQ] at aQ;have hl:(Builtin.len_ #[80] 3 #[.map (some mb)]).run prog w=.ok (NY (l.length:Int)) w:=by
  simp[Builtin.len_,getObj,Sem.run,hN.map,at7,acy,goInt]
 have⟨p,bb⟩:=xE t.p;rw[<-bb] at aQ ⊢;clear al bb;go_enter func73,ntmps73;go_wp2;go_ret;exact⟨rfl,rfl⟩
def Cl.set {w:Og}{m p:Nat}{o:Obj}{es:Array MapEntry}{k:Nat}(h:Cl w p)(aR:w.heap[m]? = some (.map es k)):Cl (Qz w m o) p:=by
 obtain⟨cs,t,ai⟩:=h;refine⟨cs,t,?_⟩;rw[Qp (fun e=>by rw[e,aR] at ai;cases ai)]
 exact ai
def Nms.next {mb nb:Nat}{l:List Nat}{p:Nat}{w:Og}(h:Nms mb nb l w)(al:Cl w p)(cC:nb≠mb):Nms mb nb (l++[p]) (Qz w mb (.map (W9 (V9 (l++[p]))) (l.length+1))):=by
 refine⟨by rw[Qp cC];exact h.word,by rw[Xc (lt_of_heap h.map),List.length_append];rfl,fun q ag=>?_⟩
 rcases List.mem_append.1 ag with ag|ag
 ·exact(h.old q ag).set h.map
 ·rw[List.mem_singleton.1 ag];exact al.set h.map
def amR {m B:Nat}(w:Og)(o:Obj):Ap m B w (Qz w m o):=⟨rfl,rfl,rfl,by rw[Vy];exact Pg,fun k _ E=>Qp E⟩
def aHi:VH 73:=fun _ _=>by kernel_rfl
def aji {I:Nat->Prop}(t:Ad)(w:Og)(aZ:Ri I w t)(hd:t.UY.Nodup)(ai:t.cnt<=90000) :
  Oq 38 #[N7 t.p] w fun e w'=>(∃ mb,e=OA (.map (some mb))/\w.heap.size<=mb/\w'.heap[mb]? = some (.map (W9 (V9 t.UY)) t.UY.length))/\Oo w w':=by
 have⟨w2,cM⟩:=xE ((w.alloc (.map #[] 0)).alloc (.cells #[.map (some w.heap.size)] 80));have aE:Oo w w2:=by
  rw[cM];exact PE.alloc OW _
 have iI:w2.heap.size=w.heap.size+2:=by rw[cM];simp
 have aw:(w.alloc (.map #[] 0)).heap.size=w.heap.size+1:=by simp
 have hN:Nms w.heap.size (w.heap.size+1) [] w2:=by
  refine⟨?_,?_,fun p al=>absurd al OW⟩
  ·rw[cM,<-aw];exact Oi _ _
  ·rw[cM,Below.heap_alloc _ _ _ OW];exact Oi _ _
 have aj:=(au4 73 (Oy (w.heap.size+1) 0) (fun b=>b<w.heap.size+2/\b≠w.heap.size) (Ap w.heap.size (w.heap.size+2)) (Nms w.heap.size (w.heap.size+1)) nmF (fun l ap=>(l++Ad.SL ap).Nodup) aHi (fun W=>by kernel_rfl)
  (fun _ _ _ h k=>h.trans k) (fun w w' h=>⟨fun b A _=>h.block b A.1 A.2,h.size⟩)
  (fun l t ap h=>by
   simp only[nmF,if_true];rw[Ad.SL,abh] at h;rw[afP];simpa using h)
  (fun l t ap w' h mx be=>by
   have al:t.p ∉ l:=by
    rw[Ad.SL,abh,List.nodup_append] at h;exact fun aR=>h.2.2 _ aR _ OW rfl
   refine(ahr mx be al).mono ?_;rintro e aq ⟨rfl,rfl⟩;exact⟨rfl,mx.next be.cl Oe,amR _ _⟩)
  t.cnt t Pg ai [] [] w2 (by rw[List.nil_append,Ad.SL,Ad.SL,List.append_nil];exact hd) hN
  (Ri.later (I:=fun b=>b<w.heap.size+2/\b≠w.heap.size) (fun b A hl=>aE.block b hl) _ (Ri.mono (fun b _ hl=>⟨by omega,by omega⟩) _ aZ)))
 rw[au3,List.nil_append] at aj;have⟨p,al⟩:=xE t.p;rw[<-al] at aj ⊢;rw[cM] at aj;have bo:=hide cM;have uw:=mkMap 80;clear iI aw hd ai al cM;go_enter func38,ntmps38;go_wp2_with fail;refine cm aj ?_;rintro e aq ⟨rfl,mE,_,ha3⟩;have hw:aq.cell? (N9 (w.heap.size+1) 0)=some (.map (some w.heap.size)):=by rw[cell_of mE.word];rfl
 have hT:=hide mE.map;rw[<-bo.out] at ha3;have dG:Oo w aq:=aE.trans ((ha3.mono Oe).below Pg);go_wp2;go_ret;exact⟨⟨_,rfl,Pg,hT.out⟩,dG⟩
def aiy {w:Og}{B B' e sz:Nat}{v:Ot}{n:Nat}{xs:List Ot}(h:w.ownsRow B e sz v n xs)(a1:B'<=B):w.ownsRow B' e sz v n xs:=by
 obtain⟨h1,U|⟨g,cap,ck,av,aN,bx⟩⟩:=h
 ·exact⟨h1,Or.inl U⟩
 ·exact⟨h1,Or.inr ⟨g,cap,ck,av,Nat.le_trans a1 aN,bx⟩⟩
