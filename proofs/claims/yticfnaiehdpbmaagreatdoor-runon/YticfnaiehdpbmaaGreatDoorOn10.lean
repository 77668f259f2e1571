import Derived.Test.YticfnaiehdpbmaaGreatDoorOn6
import Derived.Test.YticfnaiehdpbmaaGreatDoorOn5
import Derived.Test.YticfnaiehdpbmaaGreatDoorOn7
set_option maxRecDepth 100000
set_option maxHeartbeats 8000000
set_option linter.all false
namespace Go.Proofs.YticfnaiehdpbmaaGreatDoor
open Go.RowKit Go.Proofs.Tryz
def PI {α β:Type}{r:PR α}{f:α->Nat->PR β}{y:β}{j:Nat}(h:r.bind f=.ok y j):∃ x i,r=.ok x i/\f x i=.ok y j:=by
 cases r with
 | ok x i=>exact⟨x,i,rfl,h⟩
 | bad er p=>cases h
 | out=>cases h
def ahq {s:OH}:Qu s≠15:=by
 unfold Qu QG
 cases aH:hds.find? (fun e=>decide (s=e.1)) with
 | none=>decide
 | some e=>
  have aS:=List.mem_of_find?_eq_some aH;simp only[hds,List.mem_cons,List.not_mem_nil,or_false] at aS
  rcases aS with rfl|rfl|rfl|rfl|rfl|rfl|rfl|rfl <;> decide
def ahM {l:List Tk}{F:SX}{kd:Int}{s:OH}{d i j:Nat}{t:Tr}(h:Qy l F kd s d i=.ok t j):t.kd=kd:=by
 unfold Qy at h;obtain⟨_,_,_,h⟩:=PI h;obtain⟨_,_,_,h⟩:=PI h
 cases h;rfl
def aui {l:List Tk}{F:SX}{d q i j:Nat}{t:Tr}(h:Wi l F d q i=.ok t j):t.kd≠15:=by
 unfold Wi at h
 split at h
 ·unfold WG at h;obtain⟨_,_,_,h⟩:=PI h
  split at h
  ·
   cases h
  ·split at h
   ·exact axZ
   ·obtain⟨_,_,_,h⟩:=PI h
    cases h;exact ahq
 ·unfold V9 at h;obtain⟨_,_,_,h⟩:=PI h;obtain⟨_,_,_,h⟩:=PI h;rw[ahM h];decide
 ·unfold PX at h;obtain⟨_,_,_,h⟩:=PI h;obtain⟨_,_,_,h⟩:=PI h;cases h
  show (6:Int)≠15
  decide
 ·obtain⟨_,_,_,h⟩:=PI h
  cases h;decide
 ·unfold Tn at h;obtain⟨_,_,_,h⟩:=PI h;obtain⟨_,_,_,h⟩:=PI h
  split at h
  ·obtain⟨_,_,_,h⟩:=PI h
   cases h;exact ahq
  ·
   cases h;exact ahq
 ·unfold Rz at h;exact axZ
 ·unfold TJ at h
  split at h
  ·exact axZ
  ·obtain⟨_,_,_,h⟩:=PI h
   cases h;exact ahq
 ·unfold SI at h;obtain⟨_,_,_,h⟩:=PI h;obtain⟨_,_,_,h⟩:=PI h;obtain⟨_,_,_,h⟩:=PI h;obtain⟨_,_,_,h⟩:=PI h
  split at h
  ·
   cases h
  ·
   cases h
   show (12:Int)≠15
   decide
def ajE (l:List Tk):∀ k,FOk (fns l k):=by
 intro k
 cases k with
 | zero=>intro d i t j h;cases h
 | succ k=>
  intro d i t j h jf;have fq:PY l (fns l k) d i=.ok t j:=h;unfold PY at fq
  split at fq
  ·exact absurd jf (aui fq)
  ·unfold Wh at fq;obtain⟨v,_,_,fq⟩:=PI fq;obtain⟨_,_,_,fq⟩:=PI fq
   cases fq
   exact⟨v,[],rfl⟩
def ahN {c:Ctx}{F:SX}(ah:FC c F)(hN:∃ k,FNx c.l k F):Does c 154 NV (SI c.l F):=by
 intro w d i r ac aR h;unfold SI at ac
 cases aS:Pm c.l abJ i with
 | out=>rw[aS] at ac;exact absurd ac.symm aR
 | bad er p=>rw[aS,PG] at ac;subst ac;exact aHt w d i h er p aS
 | ok x i0=>
  rw[aS,bind_ok] at ac
  cases D:PX c.l F d i0 with
  | out=>rw[D] at ac;exact absurd ac.symm aR
  | bad er p=>rw[D,PG] at ac;subst ac;exact aHs ah hN w d i i0 h aS er p D
  | ok b a7=>
   rw[D,bind_ok] at ac;unfold VK at ac
   by_cases aj:fx c.l a7=UH
   ·rw[if_pos aj,bind_assoc] at ac
    cases U:Pm c.l Rk (a7+1) with
    | out=>rw[U] at ac;exact absurd ac.symm aR
    | bad er p=>rw[U,PG] at ac;subst ac;exact abu ah hN w d i i0 h aS b a7 D aj er p (Or.inl U)
    | ok dG i2=>
     rw[U,bind_ok,bind_assoc] at ac
     cases aw:nameP c.l i2 with
     | out=>rw[aw] at ac;exact absurd ac.symm aR
     | bad er p=>rw[aw,PG] at ac;subst ac;exact abu ah hN w d i i0 h aS b a7 D aj er p (Or.inr ⟨i2,U,Or.inl aw⟩)
     | ok s i3=>
      rw[aw,bind_ok,bind_assoc] at ac
      cases aL:Pm c.l SA i3 with
      | out=>rw[aL] at ac;exact absurd ac.symm aR
      | bad er p=>rw[aL,PG] at ac;subst ac;exact abu ah hN w d i i0 h aS b a7 D aj er p (Or.inr ⟨i2,U,Or.inr ⟨s,i3,aw,Or.inl aL⟩⟩)
      | ok ja i4=>
       rw[aL,bind_ok,bind_assoc] at ac
       cases bE:PX c.l F d i4 with
       | out=>rw[bE] at ac;exact absurd ac.symm aR
       | bad er p=>rw[bE,PG] at ac;subst ac;exact abu ah hN w d i i0 h aS b a7 D aj er p (Or.inr ⟨i2,U,Or.inr ⟨s,i3,aw,Or.inr ⟨i4,aL,bE⟩⟩⟩)
       | ok b2 i5=>
        rw[bE,bind_ok,bind_ok] at ac;unfold SH at ac
        by_cases aH:fx c.l i5=QM
        ·rw[if_pos aH,bind_assoc] at ac
         cases bX:PX c.l F d (i5+1) with
         | out=>rw[bX] at ac;exact absurd ac.symm aR
         | bad er p=>rw[bX,PG] at ac;subst ac;exact ajT ah hN w d i i0 h aS b a7 D aj i2 U s i3 aw i4 aL b2 i5 bE aH er p bX
         | ok em pT=>
          rw[bX,bind_ok,bind_ok,if_neg O8] at ac;subst ac;exact auh ah hN w d i i0 h aS b a7 D aj i2 U s i3 aw i4 aL b2 i5 bE aH em pT bX
        ·rw[if_neg aH,bind_ok,if_neg O8] at ac;subst ac;exact aqI ah hN w d i i0 h aS b a7 D aj i2 U s i3 aw i4 aL b2 i5 bE aH
   ·rw[if_neg aj,bind_ok] at ac;unfold SH at ac
    by_cases aH:fx c.l a7=QM
    ·rw[if_pos aH,bind_assoc] at ac
     cases bX:PX c.l F d (a7+1) with
     | out=>rw[bX] at ac;exact absurd ac.symm aR
     | bad er p=>rw[bX,PG] at ac;subst ac;exact am1 ah hN w d i i0 h aS b a7 D aj aH er p bX
     | ok em pT=>
      rw[bX,bind_ok,bind_ok,if_neg O8] at ac;subst ac;exact ayE ah hN w d i i0 h aS b a7 D aj aH em pT bX
    ·rw[if_neg aH,bind_ok,if_pos O8] at ac;subst ac;exact aug ah hN w d i i0 h aS b a7 D aj aH
def aFA:VR 147:=fun _ _=>by kernel_rfl
def aFB:VR 148:=fun _ _=>by kernel_rfl
def aFC:VR 149:=fun _ _=>by kernel_rfl
def aFD:VR 150:=fun _ _=>by kernel_rfl
def aFE:VR 151:=fun _ _=>by kernel_rfl
def aFF:VR 152:=fun _ _=>by kernel_rfl
def aFG:VR 153:=fun _ _=>by kernel_rfl
def aFH:VR 154:=fun _ _=>by kernel_rfl
def aFI {s:OH}{q:Nat}(h:QG Uj s=some q):q<8:=by
 unfold QG at h
 cases aH:Uj.find? (fun e=>decide (s=e.1)) with
 | none=>rw[aH] at h;cases h
 | some e=>
  rw[aH] at h;have aS:=List.mem_of_find?_eq_some aH;simp only[Option.map_some,Option.some.injEq] at h;subst h;simp only[Uj,List.mem_cons,List.not_mem_nil,or_false] at aS
  rcases aS with rfl|rfl|rfl|rfl|rfl|rfl|rfl|rfl|rfl|rfl|rfl|rfl <;> decide
def aFJ {c:Ctx}{w:Ov}{d:Nat}{r:PR Tr}{e:Ending}{w':Ov}(h:Qn c w d (EV w.heap.size) r e w'):Qn c w d (NV w.heap.size) r e w':=by
 cases r with
 | ok x j=>
  obtain⟨⟨v,h1,U⟩,aw,aL⟩:=h;exact⟨⟨v,h1,U.nv⟩,aw,aL⟩
 | bad er p=>exact h
 | out=>exact h
def adu {c:Ctx}{F:SX}(ah:FC c F)(hN:∃ k,FNx c.l k F)(A:FOk F):Does c 160 NV (PY c.l F):=by
 intro w d i r ac aR h;unfold PY at ac
 cases ag:QG Uj (fx c.l i) with
 | none=>rw[ag] at ac;exact aua ah w d i r ac aR ag h
 | some q=>
  rw[ag] at ac;have aQ:=aFI ag;have x8:(O9 c.l i).kd≠6:=fun bX=>by
   have:fx c.l i=Ox:=by unfold fx;rw[bX];rfl
   have h0:QG Uj Ox=none:=by decide
   rw[this,h0] at ag;cases ag
  have fQ:q=0\/q=1\/q=2\/q=3\/q=4\/q=5\/q=6\/q=7:=Ou
  rcases fQ with rfl|rfl|rfl|rfl|rfl|rfl|rfl|rfl
  ·exact WQ 147 aFA w d i r aR 0 ag rfl (fun W a1=>aqH ah W d i r x8 ac aR a1) h
  ·exact WQ 148 aFB w d i r aR 1 ag rfl (fun W a1=>aqE ah hN A W d i r ac aR a1) h
  ·exact WQ 149 aFC w d i r aR 2 ag rfl (fun W a1=>(QZ ah hN W d i r ac aR a1).mono fun e w' al=>aFJ al) h
  ·exact WQ 150 aFD w d i r aR 3 ag rfl (fun W a1=>empty_any W d i r ac aR a1) h
  ·exact WQ 151 aFE w d i r aR 4 ag rfl (fun W a1=>ajR ah W d i r x8 ac aR a1) h
  ·exact WQ 152 aFF w d i r aR 5 ag rfl (fun W a1=>(Zk ah W d i r x8 ac aR a1).mono fun e w' al=>aFJ al) h
  ·exact WQ 153 aFG w d i r aR 6 ag rfl (fun W a1=>ajS ah W d i r x8 ac aR a1) h
  ·exact WQ 154 aFH w d i r aR 7 ag rfl (fun W a1=>ahN ah hN W d i r ac aR a1) h
def aqk (c:Ctx)(aD:Ends c.l):∀ k,FC c (fns c.l k):=by
 intro k
 induction k with
 | zero=>exact⟨fun _ _ _ r ac aR _=>absurd ac.symm aR,fun _ _ _ r ac aR _=>absurd ac.symm aR,fun _ _ _ _ _ _ r ac aR _=>absurd ac.symm aR,fun _ _ _ r ac aR _=>absurd ac.symm aR⟩
 | succ k bn=>
  have hN:∃ q,FNx c.l q (fns c.l k):=⟨k,Xz aD k⟩;exact⟨adu bn hN (ajE c.l k),amY bn,fun b _ _ w d i r ac aR h=>aqF bn hN b w d i r ac aR h,ajQ bn (am0 bn hN (ajE c.l k))⟩
def aqe (B:Nat)(t:Tr)(p:Nat)(w:Ov)(h:Qb (From B) w t p)(aj:t.count<=90000) :
  OE 35 #[Oo p] w fun e w'=>e=OQ (Ol (t.count:Int))/\OD w w':=by
 have jx:=Yk;have az:Qb (fun x=>x≠w.heap.size) (w.alloc (.cells #[Ol 0] 3)) t p:=
  Qb.later (I:=fun x=>x≠w.heap.size) (fun b _ hl=>Below.heap_alloc w _ b hl) _ _ (Qb.mono (fun b _ hl=>by omega) _ _ h)
 have m6:Cnt w.heap.size 0 (w.alloc (.cells #[Ol 0] 3)):=⟨OA _ _⟩;have ai:=(walk_any w.heap.size t.count t O6 p 0 _ az m6 Ou);clear h aj;go_enter func35,ntmps35;go_wp2_with fail;refine cm ai ?_;rintro e w1 ⟨rfl,f0,ha1⟩;have c0:w1.cell? (Ot w.heap.size 0)=some (Ol (((0+t.count:Nat)):Int)):=by rw[cell_of f0.blk];rfl
 rw[Nat.zero_add] at c0;have bL:OD w w1:=(QX.alloc O6 (.cells #[Ol 0] 3)).trans ((ha1.mono O8).below O6);go_wp2;go_ret;exact⟨rfl,bL⟩
inductive PaR where
 | ok (t:Tr)
 | at (er:Int) (p:Nat)
 | bare
abbrev KK:Nat:=24100
def Qd (aY bb:List OH)(s:OH):PaR:=
 if 3000<s.size then .bare
 else match RH aY bb s (OT Qe s 0) [] with
  | .bad er p=>.at er p
  | .ok l=>match Uh l (fns l KK) with
   | .bad er p=>.at er p
   | .ok t _=>if 1500<t.count then .bare else .ok t
   | .out=>.bare
def aay (r:PaR)(w:Ov)(e:Ending)(w':Ov):Prop:=
 match r with
 | .ok t=>∃ p,e=OQ (.tuple #[Oo p,.nilIface])/\Qb (From w.heap.size) w' t p/\OD w w'
 | .at er pl=>∃ b,e=OQ (.tuple #[.pointer none,.iface 150 (OM b 0)])/\w'.heap[b]? = some (O1 #[Ol er,Ol (pl:Int)] 152)/\w.heap.size<=b/\OD w w'
 | .bare=>e=OQ (.tuple #[.pointer none,.iface 34 (Ol 4)])/\OD w w'
def aqf {aY bb:List OH}{s:OH}{k:Nat}{kd n:Int}{tx:OH}{e:Nat}(h:RU aY bb s k=.tok kd tx n e):kd≠6:=by
 unfold RU at h
 split at h
 ·unfold TG at h
  split at h
  ·
   cases h;decide
  ·split at h
   ·
    cases h
   ·
    cases h;decide
 ·split at h
  ·unfold rdNum at h
   split at h
   ·
    cases h
   ·split at h
    ·
     cases h
    ·split at h
     ·
      cases h
     ·
      cases h;decide
  ·split at h
   ·unfold rdStr at h
    split at h
    ·split at h
     ·
      cases h
     ·
      cases h;decide
    ·
     cases h
   ·unfold Uk at h
    split at h
    ·
     cases h;decide
    ·
     cases h
def amQ (aY bb:List OH)(s:OH)(h5:∀ g ∈ bb,1<=g.size):∀ m i aX l,s.size - i=m->i<=s.size->RH aY bb s i aX=.ok l ->
  ∃ l',l=aX++l'++[⟨6,⟨#[]⟩,0,s.size⟩]/\(∀ t ∈ l',t.kd≠6)/\l'.length<=s.size - i:=by
 intro m
 induction m using Nat.strongRecOn with
 | ind m bn=>
  intro i aX l aS am h
  by_cases aQ:i<s.size
  ·
   cases aa:RU aY bb s i with
   | bad er p=>rw[WX aY bb s i aX er p aQ aa] at h;cases h
   | tok kd tx n e=>
    have z:=Oq (∀{G}(h:G:=by
    obtain⟨l',h1,U,aw⟩:=bn (s.size - OT Qe s e) Ou (OT Qe s e) _ l rfl gc h;refine⟨⟨kd,tx,n,i⟩::l',by rw[h1];simp,fun t bc=>?_,by simp;omega⟩
    rcases List.mem_cons.1 bc with rfl|bc
    ·exact aqf aa
    ·exact U t bc),G);exact azn
  ·rw[UN aY bb s i aX aQ] at h;exact⟨[],by cases h;simp,fun t bc=>absurd bc O8,by simp⟩
def aaG {aY bb:List OH}{s:OH}(h5:∀ g ∈ bb,1<=g.size){l:List Tk}(h:RH aY bb s (OT Qe s 0) []=.ok l):Ends l/\0<l.length/\l.length<=s.size+1:=by
 obtain⟨l',h1,U,aw⟩:=amQ aY bb s h5 _ (OT Qe s 0) [] l rfl (QL Qe s 0 (Nat.zero_le _)) h;rw[List.nil_append] at h1;subst h1;refine⟨fun i am=>?_,by simp,by simp;omega⟩
 rw[List.length_append,List.length_singleton] at am;unfold O9;rw[List.getD_eq_getElem?_getD,List.length_append,List.length_singleton]
 by_cases ri:i<l'.length
 ·rw[List.getElem?_append_left ri,List.getElem?_eq_getElem ri];constructor
  ·intro bX;exact absurd bX (U _ (List.getElem_mem ri))
  ·intro bX;omega
 ·have jM:i=l'.length:=Ou;subst jM;rw[List.getElem?_append_right O6,Nat.sub_self];simp
section
variable {l:List Tk} {k:Nat} {F:SX} (ah:FNx l k F)
include l k F ah
theorem ahx (E:8 * l.length+3<k):∀ n aX i,i<l.length->l.length - i<n->PL l F n aX i≠.out:=by
 intro n
 induction n with
 | zero=>intro aX i am az;omega
 | succ n bn=>
  intro aX i am az;unfold PL
  split
  ·nofun
  ·have hd:=QT (l:=l) (d:=0) ((ah.st (0+1) i am).imp (q':=True) (fun _=>by omega))
   cases aa:PD l F.st 0 i with
   | out=>exact absurd aa (hd.1 trivial)
   | bad er p=>rw[PR.bind];nofun
   | ok t j=>
    have:=hd.2 t j aa;exact bn _ j this.2 Ou
theorem ahy:∀ n aX i ao j,i<l.length->PL l F n aX i=.ok ao j->j<l.length:=by
 intro n
 induction n with
 | zero=>intro aX i ao j _ h;cases h
 | succ n bn=>
  intro aX i ao j am h;unfold PL at h
  split at h
  ·
   cases h;exact am
  ·obtain⟨t,bK,h1,h⟩:=PI h;exact bn _ bK _ _ ((QT (l:=l) (d:=0) (ah.st (0+1) i am)).2 t bK h1).2 h
end
def acP {l:List Tk}(aD:Ends l)(h0:0<l.length)(hl:l.length<=3001):Uh l (fns l KK)≠.out/\∀ t j,Uh l (fns l KK)=.ok t j->j<l.length:=by
 have ah:=Xz aD KK;have h1:=ahx ah (by unfold KK;omega) (fns l KK).fuel [] 0 h0 (by rw[ah.fuel];unfold KK;omega)
 unfold Uh;constructor
 ·
  cases aa:PL l (fns l KK) (fns l KK).fuel [] 0 with
  | out=>exact absurd aa h1
  | bad er p=>nofun
  | ok ao j=>nofun
 ·intro t j h;obtain⟨ao,bK,U,h⟩:=PI h;cases h;exact ahy ah _ _ _ _ _ h0 U
structure Tabs (w:Ov):Prop where
 heads:∃ t fr,w.heap[4]? = some (.cells VQ t fr)
 signs:∃ t fr,w.heap[3]? = some (.cells WM t fr)
def Tabs.later {w w':Ov}(h:Tabs w)(D:OD w w'):Tabs w':=by
 obtain⟨⟨t,fr,h1⟩,⟨t2,vK,U⟩⟩:=h;exact⟨⟨t,fr,by rw[D.block _ (lt_of_heap h1)];exact h1⟩,⟨t2,vK,by rw[D.block _ (lt_of_heap U)];exact U⟩⟩
def aqj (w:Ov):OD w (RW w):=PO.alloc O8 _
def aft (w:Ov)(l:List Tk)(g cap:Nat)(cj:Array OG)(aD:Ends l)(h0:0<l.length)(hl:l.length<=3001)(bc:w.heap[g]? = some (O1 cj 144))(hcap:l.length<=cap/\cap<=maxLen/\cj.size=cap * 4/\cj.toList.take (l.length * 4)=Rj l)(dY:Tabs w) :
  OE 34 #[.slice (some (Ot g 0)) l.length cap] w (acS (Uh l (fns l KK)) w):=by
 have D:=aqj w;have DF:=dY.later D;have dB:=adr (RW w) l g cap cj aD h0 hl (by rw[D.block _ (lt_of_heap bc)];exact bc) hcap DF.heads DF.signs
 have ah:∀ c:Ctx,c.l=l->FC c (fns c.l KK):=fun c aj=>aqk c (by rw[aj];exact aD) KK
 have al:=(acP aD h0 hl).1
 cases aa:Uh l (fns l KK) with
 | out=>exact absurd aa al
 | bad er pl=>
  refine aql w l g cap er pl dB fun c W aj ba=>?_;exact aD2
 | ok t j=>
  refine atO w l g cap t j dB fun c W aj ba=>?_;exact aD2
section
variable (s:OH) (w:Ov)
include s w
def ajH (ac:3000<s.size):OE 15 #[OB s] w (aay .bare w):=by
 have ai:=(ahz s w ac);clear ac;go_enter func15,ntmps15;go_wp2_with fail;refine cm ai ?_;rintro e w1 ⟨rfl,rfl⟩;go_wp2_with fail;exact UU (v:=.tuple #[Ri,.iface 34 (Ol 4)]) ⟨rfl,QX⟩
def ajI (er:Int)(p:Nat)(h:OE 33 #[OB s] w (akP (.bad er p) w)):OE 15 #[OB s] w (aay (.at er p) w):=by
 go_enter func15,ntmps15;go_wp2_with fail;refine cm h ?_;rintro e w1 ⟨b,rfl,b6,aF,br⟩;have uM:=hide b6;have gY:=hide aF;clear b6 aF h;go_wp2_with fail;exact UU (v:=.tuple #[Ri,.iface 150 (OM b 0)]) ⟨b,rfl,uM.out,gY.out,br⟩
def amT (l:List Tk)(er:Int)(p:Nat)(h:OE 33 #[OB s] w (akP (.ok l) w))(h0:0<l.length)(aa:∀ (W:Ov) (g cap:Nat) (cj:Array OG),OD w W->W.heap[g]? = some (O1 cj 144)->(l.length<=cap/\cap<=maxLen/\cj.size=cap * 4/\cj.toList.take (l.length * 4)=Rj l)->OE 34 #[.slice (some (Ot g 0)) l.length cap] W (acS (.bad er p) W)) :
  OE 15 #[OB s] w (aay (.at er p) w):=by
 have dj:=hide aa;clear aa;go_enter func15,ntmps15;go_wp2_with fail;refine cm h ?_;rintro e w1 ⟨v,rfl,hown,b6⟩
 rcases hown.2 with az|⟨g,cap,cj,rfl,hg,hh,h1,U,aw,aL⟩
 ·omega
 ·have f4:=(dj.out w1 g cap cj b6 hh ⟨h1,U,aw,aL⟩);have f3:=b6;clear b6 hg hh h1 U aw aL h;go_wp2_with fail;refine cm f4 ?_;rintro e w2 ⟨b,rfl,b6,aF,br⟩;have uM:=hide b6;have Fv:=(f3.trans (br.mono f3.size));have gY:=hide (Nat.le_trans f3.size aF);clear b6 aF;go_wp2_with fail;exact UU (v:=.tuple #[Ri,.iface 150 (OM b 0)]) ⟨b,rfl,uM.out,gY.out,Fv⟩
def aqm (l:List Tk)(t:Tr)(j:Nat)(h:OE 33 #[OB s] w (akP (.ok l) w))(h0:0<l.length)(aj:t.count<=90000)(aa:∀ (W:Ov) (g cap:Nat) (cj:Array OG),OD w W->W.heap[g]? = some (O1 cj 144)->(l.length<=cap/\cap<=maxLen/\cj.size=cap * 4/\cj.toList.take (l.length * 4)=Rj l)->OE 34 #[.slice (some (Ot g 0)) l.length cap] W (acS (.ok t j) W)) :
  OE 15 #[OB s] w (aay (if 1500<t.count then .bare else .ok t) w):=by
 have dj:=hide aa;have gf:=hide aj;obtain⟨r,bW⟩:=xH ((if 1500<t.count then PaR.bare else .ok t));rw[<-bW.out];clear aa aj;go_enter func15,ntmps15;go_wp2_with fail;refine cm h ?_;rintro e w1 ⟨v,rfl,hown,b6⟩
 rcases hown.2 with az|⟨g,cap,cj,rfl,hg,hh,h1,U,aw,aL⟩
 ·omega
 ·have f4:=(dj.out w1 g cap cj b6 hh ⟨h1,U,aw,aL⟩);clear hg hh h1 U aw aL h;go_wp2_with fail;refine cm f4 ?_;rintro e w2 ⟨p,rfl,az,D⟩;have cq:=(b6.trans (D.mono b6.size));have eF:=(aqe w1.heap.size t p w2 az gf.out);have iU:=hide b6.size;clear D;go_wp2_with fail;refine cm eF ?_;rintro e ap ⟨rfl,br⟩;have d3:=(cq.trans (br.mono cq.size));have qV:Qb (From w.heap.size) ap t p:=Qb.mono (fun b D _=>Nat.le_trans iU.out D) _ _ (Qb.later (I:=From w1.heap.size) (fun b _ hl=>br.block b hl) _ _ az)
  by_cases jf:1500<t.count
  ·have ag:r=.bare:=by rw[bW.out,if_pos jf]
   have bm:=hide ag;clear ag;have am:(1500:Int)<(t.count:Int):=Ou;clear jf;go_wp2_with fail;exact UU (v:=.tuple #[Ri,.iface 34 (Ol 4)]) (by rw[bm.out];exact⟨rfl,d3⟩)
  ·have ag:r=.ok t:=by rw[bW.out,if_neg jf]
   have bm:=hide ag;clear ag;have am:¬ (1500:Int)<(t.count:Int):=Ou;clear jf;go_wp2_with fail;exact UU (v:=.tuple #[Oo p,Qp]) (by rw[bm.out];exact⟨p,rfl,qV,d3⟩)
end
def parse_any (aY bb:List OH)(s:OH)(w:Ov)(dr:Lists aY bb w)(h5:∀ g ∈ bb,1<=g.size)(dY:Tabs w):OE 15 #[OB s] w (aay (Qd aY bb s) w):=by
 unfold Qd
 by_cases ac:3000<s.size
 ·rw[if_pos ac];exact ajH s w ac
 ·rw[if_neg ac];have E:=ajJ aY bb s w Ou dr h5
  cases bc:RH aY bb s (OT Qe s 0) [] with
  | bad er p=>rw[bc] at E;exact ajI s w er p E
  | ok l=>
   rw[bc] at E;obtain⟨aD,h0,hl⟩:=aaG h5 bc;have gn:l.length<=3001:=Ou;obtain⟨o0,be⟩:=acP aD h0 gn;have ba:=fun(W:Ov) (g cap:Nat) (cj:Array OG) (D:OD w W) hh hcap=>aft W l g cap cj aD h0 gn hh hcap (dY.later D);simp only
   cases aa:Uh l (fns l KK) with
   | out=>exact absurd aa o0
   | bad er p=>rw[aa] at ba;exact amT s w l er p E h0 ba
   | ok t j=>
    rw[aa] at ba;have aN:=be t j aa;have t1:=arP (avT KK) aa;exact aqm s w l t j E h0 Ou ba
inductive RQ (cW dl:OH->Prop) (dk:Int->Prop):Nat->Tr->Prop
 | name {s} (h:cW s):RQ cW dl dk 0 (.mk 23 s 0 [])
 | str {s} (h:dl s):RQ cW dl dk 0 (.mk 18 s 0 [])
 | num {n} (h:dk n):RQ cW dl dk 0 (.mk 17 Ox n [])
 | lit {kd} (E:kd=19\/kd=20\/kd=21\/kd=22):RQ cW dl dk 0 (.mk kd Ox 0 [])
 | anC {s t} (h:cW s) (bc:RQ cW dl dk 0 t):RQ cW dl dk 0 (.mk 36 s 0 [t])
 | call {t ao} (bc:RQ cW dl dk 0 t) (ac:∀ u ∈ ao,RQ cW dl dk 0 u) (hl:ao.length<=8):RQ cW dl dk 0 (.mk 35 Ox 0 (t::ao))
 | one {kd t} (E:kd=32\/kd=33\/kd=34) (bc:RQ cW dl dk 0 t):RQ cW dl dk 0 (.mk kd Ox 0 [t])
 | two {kd a b} (E:25<=kd/\kd<=31) (ax:RQ cW dl dk 0 a) (D:RQ cW dl dk 0 b):RQ cW dl dk 0 (.mk kd Ox 0 [a,b])
 | asg {a b} (E:a.kd=23\/a.kd=36) (ax:RQ cW dl dk 0 a) (D:RQ cW dl dk 0 b):RQ cW dl dk 0 (.mk 24 Ox 0 [a,b])
 | obj {ps} (ac:∀ u ∈ ps,RQ cW dl dk 2 u) (hl:ps.length<=8):RQ cW dl dk 0 (.mk 38 Ox 0 ps)
 | lam {s p b} (h:s=Ox\/cW s) (al:RQ cW dl dk 5 p) (D:RQ cW dl dk 4 b):RQ cW dl dk 0 (.mk 37 s 0 [p,b])
 | prop {s v} (h:cW s) (av:RQ cW dl dk 0 v):RQ cW dl dk 2 (.mk 39 s 0 [v])
 | par {s} (h:cW s):RQ cW dl dk 6 (.mk 23 s 0 [])
 | ali {ps} (ac:∀ u ∈ ps,RQ cW dl dk 6 u) (hl:ps.length<=8):RQ cW dl dk 5 (.mk 40 Ox 0 ps)
 | blk {ao} (ac:∀ u ∈ ao,RQ cW dl dk 1 u):RQ cW dl dk 3 (.mk 6 Ox 0 ao)
 | body {tx ao} (bc:tx=Ox\/tx=VT) (ac:∀ u ∈ ao,RQ cW dl dk 1 u):RQ cW dl dk 4 (.mk 6 tx 0 ao)
 | decl {kd s v} (E:kd=2\/kd=3\/kd=4) (h:cW s) (av:∀ u ∈ v,RQ cW dl dk 0 u) (hl:v.length<=1) (aj:kd=4->v.length=1):RQ cW dl dk 1 (.mk kd s 0 v)
 | func {s p b} (h:cW s) (al:RQ cW dl dk 5 p) (D:RQ cW dl dk 4 b):RQ cW dl dk 1 (.mk 5 s 0 [p,b])
 | aic {t} (h:RQ cW dl dk 3 t):RQ cW dl dk 1 t
 | sif {v s} (av:RQ cW dl dk 0 v) (ac:RQ cW dl dk 1 s):RQ cW dl dk 1 (.mk 7 Ox 0 [v,s])
 | arq {v s e} (av:RQ cW dl dk 0 v) (ac:RQ cW dl dk 1 s) (aq:RQ cW dl dk 1 e):RQ cW dl dk 1 (.mk 7 Ox 0 [v,s,e])
 | loop {kd v s} (E:kd=8\/kd=9) (av:RQ cW dl dk 0 v) (ac:RQ cW dl dk 1 s):RQ cW dl dk 1 (.mk kd Ox 0 [v,s])
 | give {kd v} (E:kd=10\/kd=11) (av:∀ u ∈ v,RQ cW dl dk 0 u) (hl:v.length<=1) (aj:kd=11->v.length=1):RQ cW dl dk 1 (.mk kd Ox 0 v)
 | atm {b c f} (D:RQ cW dl dk 3 b) (aj:∀ u ∈ c,RQ cW dl dk 7 u) (aH:∀ u ∈ f,RQ cW dl dk 8 u) (hl:c.length<=1/\f.length<=1/\0<c.length+f.length):RQ cW dl dk 1 (.mk 12 Ox 0 (b::(c++f)))
 | cat {s b} (h:cW s) (D:RQ cW dl dk 3 b):RQ cW dl dk 7 (.mk 13 s 0 [b])
 | fin {b} (D:RQ cW dl dk 3 b):RQ cW dl dk 8 (.mk 14 Ox 0 [b])
 | empty:RQ cW dl dk 1 (.mk 16 Ox 0 [])
 | expr {v} (av:RQ cW dl dk 0 v):RQ cW dl dk 1 (.mk 15 Ox 0 [v])
 | prog {tx ao} (bc:tx=Ox\/tx=VT) (ac:∀ u ∈ ao,RQ cW dl dk 1 u):RQ cW dl dk 9 (.mk 1 tx 0 ao)
def ahY (kd:Int)(n:Int)(ao:List Tr):∃ tx,(tx=Ox\/tx=VT)/\Tv (.mk kd Ox n ao)=.mk kd tx n ao:=by
 unfold Tv
 split
 ·rename_i h;cases h;split
  ·exact⟨_,Or.inr rfl,rfl⟩
  ·exact⟨_,Or.inl rfl,rfl⟩
 ·exact⟨_,Or.inl rfl,rfl⟩
def RQ.ayR {cW dl:OH->Prop}{dk:Int->Prop}{t:Tr}(h:RQ cW dl dk 3 t):RQ cW dl dk 4 (Tv t):=by
 cases h with
 | blk ac=>obtain⟨tx,h1,U⟩:=ahY 6 0 _;rw[U];exact .body h1 ac
def XJ {k:Int}{x:OH}{s:Sg}(h:Zn k x=some s):s ∈ sgs/\s.parts=k:=by
 unfold Zn at h;have h1:=Option.filter_eq_some_iff.1 h;exact⟨List.mem_of_find?_eq_some h1.1,by simpa using h1.2⟩
def ac1 (q:Nat)(k:Int):Bool:=match q with
 | 0=>k==2||k==3||k==4
 | 4=>k==7
 | 5=>k==8||k==9
 | 6=>k==10||k==11
 | _=>true
section
variable {l:List Tk}
def NmL (l:List Tk)(s:OH):Prop:=∃ i,(O9 l i).kd=1/\(O9 l i).tx=s
def TxL (l:List Tk)(s:OH):Prop:=∃ i,(O9 l i).tx=s
def NnL (l:List Tk)(n:Int):Prop:=∃ i,(O9 l i).n=n
def WR {i j:Nat}{s:OH}(h:nameP l i=.ok s j):NmL l s:=by
 unfold nameP at h
 split at h
 ·rename_i h1;cases h;exact⟨i,h1,rfl⟩
 ·
  cases h
def ayS {q i:Nat}(h:QG Uj (fx l i)=some q):ac1 q (Qu (O9 l i).tx)=true:=by
 unfold QG at h
 cases aH:Uj.find? (fun e=>decide (fx l i=e.1)) with
 | none=>rw[aH] at h;cases h
 | some e=>
  rw[aH] at h;have h1:=List.mem_of_find?_eq_some aH;have U:fx l i=e.1:=by simpa using List.find?_some aH
  have aw:∀ e ∈ Uj,ac1 e.2 (Qu e.1)=true/\e.1≠Ox:=by decide +kernel
  have aL:(O9 l i).tx=e.1:=by
   unfold fx at U
   split at U
   ·exact U
   ·exact absurd U.symm (aw e h1).2
  cases h;rw[aL];exact(aw e h1).1
abbrev Kh (l:List Tk)(c:Nat)(r:PR Tr):Prop:=∀ t j,r=.ok t j->RQ (NmL l) (TxL l) (NnL l) c t
def UE {c:Nat}{f:Nat->Nat->PR Tr}{d i:Nat}(h:Kh l c (f (d+1) i)):Kh l c (PD l f d i):=by
 unfold PD
 split
 ·intro t j e;cases e
 ·exact h
def akN {P:Tr->Prop}{aX:List Tr}{u:Tr}(ax:∀ x ∈ aX,P x)(aT:P u):∀ x ∈ aX++[u],P x:=by
 intro x ae
 rcases List.mem_append.1 ae with h|h
 ·exact ax x h
 ·rw[List.mem_singleton.1 h];exact aT
def ah1 {c:Nat}{shut:OH}{begins:Nat->Bool}{part:Nat->PR Tr}(D:∀ i t j,part i=.ok t j->begins i=true)(al:∀ i,Kh l c (part i)):∀ k aX i t j,(∀ x ∈ aX,RQ (NmL l) (TxL l) (NnL l) c x)->aX.length<=8->QN l shut begins part k aX i=.ok t j->(∀ x ∈ t,RQ (NmL l) (TxL l) (NnL l) c x)/\t.length<=8:=by
 intro k
 induction k with
 | zero=>intro aX i t j _ _ h;cases h
 | succ k bn=>
  intro aX i t j ax hl h;unfold QN at h
  split at h
  ·
   cases h
  ·rename_i az
   obtain⟨u,a7,h1,h⟩:=binds h;have aT:=akN ax (al i u a7 h1);have gn:(aX++[u]).length<=8:=by
    have:aX.length≠8:=fun e=>az ⟨e,D _ _ _ h1⟩;simp;omega
   split at h
   ·
    cases h;exact⟨aT,gn⟩
   ·obtain⟨_,i2,U,h⟩:=binds h;exact bn _ _ _ _ aT gn h
def afI {c:Nat}{opn shut:OH}{begins:Nat->Bool}{part:Nat->PR Tr}(D:∀ i t j,part i=.ok t j->begins i=true)(al:∀ i,Kh l c (part i)){k i j:Nat}{t:List Tr}(h:UQ l opn shut begins part k i=.ok t j):(∀ x ∈ t,RQ (NmL l) (TxL l) (NnL l) c x)/\t.length<=8:=by
 unfold UQ at h;obtain⟨_,a7,h1,h⟩:=binds h
 split at h
 ·
  cases h;exact⟨fun _ h=>(by cases h),by simp⟩
 ·exact ah1 D al _ _ _ _ _ (fun _ h=>by cases h) O8 h
def aaW {i j:Nat}{s:OH}(h:nameP l i=.ok s j):isName l i=true:=by
 unfold nameP at h
 split at h
 ·rename_i h1;unfold isName;rw[h1];rfl
 ·
  cases h
structure FKh (l:List Tk)(F:SX):Prop where
 st:∀ d i,Kh l 1 (F.st d i)
 vl:∀ d i,Kh l 0 (F.vl d i)
 pr:∀ b d i,Kh l 0 (F.pr b d i)
 sg:∀ d i,Kh l 0 (F.sg d i)
 bg:∀ d i t j,F.vl d i=.ok t j->isVal l i=true
 bp:∀ b d i t j,F.pr b d i=.ok t j->isVal l i=true
 bs:∀ d i t j,F.sg d i=.ok t j->isVal l i=true
variable {F:SX} (ah:FKh l F)
include ah
theorem afJ {d:Nat}:∀ k aX i t j,(∀ x ∈ aX,RQ (NmL l) (TxL l) (NnL l) 1 x)->Qa l F d k aX i=.ok t j->∀ x ∈ t,RQ (NmL l) (TxL l) (NnL l) 1 x:=by
 intro k
 induction k with
 | zero=>intro aX i t j _ h;cases h
 | succ k bn=>
  intro aX i t j ax h;unfold Qa at h;exact aD4
theorem Yu {d i:Nat}:Kh l 3 (PX l F d i):=by
 intro t j h;unfold PX at h;obtain⟨_,a7,h1,h⟩:=binds h;obtain⟨ao,i2,U,h⟩:=binds h;cases h;exact .blk (afJ ah _ _ _ _ _ (fun _ h=>by cases h) U)
omit ah in
theorem am7 {i:Nat}:Kh l 5 (QY l F i):=by
 intro t j h;unfold QY at h;obtain⟨ao,a7,h1,h⟩:=binds h;cases h;have:=afI (c:=6) (fun i t j h=>by unfold Td at h;obtain⟨_,_,h1,_⟩:=binds h;exact aaW h1) (fun i t j h=>by unfold Td at h;obtain⟨_,_,h1,h⟩:=binds h;cases h;exact .par (WR h1)) h1
 exact .ali this.1 this.2
theorem ac2 (d i:Nat):Kh l 0 (SC l F d i):=by
 intro t j h;unfold SC at h;obtain⟨_,a7,h1,h⟩:=binds h;obtain⟨u,i2,U,h⟩:=binds h;obtain⟨_,i3,aw,h⟩:=binds h;cases h;exact UE (ah.vl _ _) _ _ U
theorem am8 (d i:Nat):Kh l 0 (Tf l F d i):=by
 intro t j h;unfold Tf at h;obtain⟨ao,a7,h1,h⟩:=binds h;cases h;have:=afI (c:=2) (fun i t j h=>by unfold UZ at h;obtain⟨_,_,h1,_⟩:=binds h;exact aaW h1) (fun i t j h=>by
  unfold UZ at h;obtain⟨_,_,h1,h⟩:=binds h;obtain⟨_,_,_,h⟩:=binds h;obtain⟨_,_,aw,h⟩:=binds h;cases h;exact .prop (WR h1) (UE (ah.vl _ _) _ _ aw)) h1
 exact .obj this.1 this.2
theorem afK {kd:Int}{s:OH}{d i j:Nat}{t:Tr}(h:Qy l F kd s d i=.ok t j):∃ p b,t=.mk kd s 0 [p,b]/\RQ (NmL l) (TxL l) (NnL l) 5 p/\RQ (NmL l) (TxL l) (NnL l) 4 b:=by
 unfold Qy at h;obtain⟨ps,a7,h1,h⟩:=binds h;obtain⟨b,i2,U,h⟩:=binds h;cases h;exact⟨_,_,rfl,am7 _ _ h1,(Yu ah _ _ U).ayR⟩
theorem am9 (d i:Nat):Kh l 0 (Ti l F d i):=by
 intro t j h;unfold Ti at h;obtain⟨_,a7,h1,h⟩:=binds h
 split at h
 ·obtain⟨s,i2,U,h⟩:=binds h;obtain⟨p,b,rfl,al,D⟩:=afK ah h;exact .lam (Or.inr (WR U)) al D
 ·obtain⟨p,b,rfl,al,D⟩:=afK ah h;exact .lam (Or.inl rfl) al D
theorem aqS (d i:Nat):Kh l 0 (SE l F d i):=by
 unfold SE
 split
 ·exact ac2 ah d i
 ·exact am8 ah d i
 ·exact am9 ah d i
 ·split
  ·rename_i fa;intro t j h;cases h
   have U:∀ s ∈ sgs,s.parts=0->s.kd=19\/s.kd=20\/s.kd=21\/s.kd=22:=by decide +kernel
   exact .lit (U _ (XJ fa).1 (XJ fa).2)
  ·split
   ·rename_i h1;intro t j h;cases h;exact .name ⟨i,h1,rfl⟩
   ·split
    ·intro t j h;cases h;exact .str ⟨i,rfl⟩
    ·split
     ·intro t j h;cases h;exact .num ⟨i,rfl⟩
     ·intro t j h;cases h
omit ah in
theorem aqT {d i j:Nat}{t:Tr}(h:SE l F d i=.ok t j):isVal l i=true:=by
 unfold isVal;unfold SE at h
 cases E:QG SY (fx l i) with
 | some q=>simp
 | none=>
  rw[E] at h;simp only at h
  cases ac:Zn 0 (fx l i) with
  | some s=>
   have z:=Oq (∀{G}(h:G:=by
   rw[aw];simp),G);exact aEK
  | none=>
   rw[ac] at h;simp only at h
   split at h
   ·rename_i h1;simp[h1]
   ·split at h
    ·rename_i h1;simp[h1]
    ·split at h
     ·rename_i h1;simp[h1]
     ·
      cases h
theorem afL {d:Nat}:∀ k u i t j,RQ (NmL l) (TxL l) (NnL l) 0 u->Qr l F d k u i=.ok t j->RQ (NmL l) (TxL l) (NnL l) 0 t:=by
 intro k
 induction k with
 | zero=>intro u i t j _ h;cases h
 | succ k bn=>
  intro u i t j aT h;unfold Qr at h
  split at h
  ·obtain⟨s,a7,h1,h⟩:=binds h;exact bn _ _ _ _ (.anC (WR h1) aT) h
  ·split at h
   ·obtain⟨ao,a7,h1,h⟩:=binds h;have:=afI (c:=0) (fun i t j h=>by
     unfold PD at h
     split at h
     ·
      cases h
     ·exact ah.bg _ _ _ _ h) (fun i=>UE (ah.vl _ _)) h1
    exact bn _ _ _ _ (.call aT this.1 this.2) h
   ·
    cases h;exact aT
theorem ana (d i:Nat):Kh l 0 (Ry l F d i):=by
 unfold Ry
 split
 ·rename_i fa
  intro t j h;obtain⟨u,a7,h1,h⟩:=binds h;cases h;have U:∀ s ∈ sgs,s.parts=1->s.kd=32\/s.kd=33\/s.kd=34:=by decide +kernel
  exact .one (U _ (XJ fa).1 (XJ fa).2) (UE (ah.sg _ _) u _ h1)
 ·intro t j h;unfold SG at h;obtain⟨u,a7,h1,h⟩:=binds h;exact afL ah _ _ _ _ _ (aqS ah d i u a7 h1) h
omit ah in
theorem anb (d i:Nat)(t:Tr)(j:Nat)(h:Ry l F d i=.ok t j):isVal l i=true:=by
 unfold Ry at h
 cases ac:Zn 1 (fx l i) with
 | some s=>
  have z:=Oq (∀{G}(h:G:=by
  unfold isVal;rw[aw];simp),G);exact aEK
 | none=>
  rw[ac] at h;simp only at h;unfold SG at h;obtain⟨u,a7,h1,_⟩:=binds h;exact aqT h1
theorem ah2 {b:Int}{d:Nat}:∀ k u i t j,RQ (NmL l) (TxL l) (NnL l) 0 u->QO l F b d k u i=.ok t j->RQ (NmL l) (TxL l) (NnL l) 0 t:=by
 intro k
 induction k with
 | zero=>intro u i t j _ h;cases h
 | succ k bn=>
  intro u i t j aT h;unfold QO at h
  split at h
  ·
   cases h;exact aT
  ·rename_i fa
   split at h
   ·
    cases h;exact aT
   ·obtain⟨v,a7,h1,h⟩:=binds h;have U:∀ s ∈ sgs,s.parts=2->25<=s.kd/\s.kd<=31:=by decide +kernel
    exact bn _ _ _ _ (.two (U _ (XJ fa).1 (XJ fa).2) aT (ah.pr _ _ _ v a7 h1)) h
theorem aun (b:Int)(d i:Nat):Kh l 0 (U0 l F b d i):=by
 intro t j h;unfold U0 at h;obtain⟨u,a7,h1,h⟩:=binds h;exact ah2 ah _ _ _ _ _ (ah.sg _ _ u a7 h1) h
theorem aqU (d i:Nat):Kh l 0 (Tj l F d i):=by
 intro t j h;unfold Tj at h;obtain⟨u,a7,h1,h⟩:=binds h;have ay:=ah.pr _ _ _ u a7 h1
 split at h
 ·split at h
  ·rename_i E
   obtain⟨v,i2,U,h⟩:=binds h;cases h;exact .asg E ay (UE (ah.vl _ _) v _ U)
  ·
   cases h
 ·
  cases h;exact ay
theorem auo (d q i:Nat)(ag:ac1 q (Qu (O9 l i).tx)=true):Kh l 1 (Wi l F d q i):=by
 intro t j h;unfold Wi at h
 split at h
 ·have E:Qu (O9 l i).tx=2\/Qu (O9 l i).tx=3\/Qu (O9 l i).tx=4:=by simpa[ac1,or_assoc] using ag
  unfold WG at h;obtain⟨s,a7,h1,h⟩:=binds h
  split at h
  ·
   cases h
  ·rename_i az
   split at h
   ·obtain⟨v,i2,U,h⟩:=binds h;obtain⟨_,i3,aw,h⟩:=binds h;cases h;have bz:=UE (ah.vl _ _) v _ U;exact .decl E (WR h1) (fun u aT=>by rw[List.mem_singleton.1 aT];exact bz) O8 O8
   ·rename_i ae
    obtain⟨_,i3,aw,h⟩:=binds h;cases h;exact .decl E (WR h1) (fun u aT=>by cases aT) O8 (fun e=>absurd ⟨e,ae⟩ az)
 ·unfold V9 at h;obtain⟨_,a7,h1,h⟩:=binds h;obtain⟨s,i2,U,h⟩:=binds h;obtain⟨p,b,rfl,al,D⟩:=afK ah h;exact .func (WR U) al D
 ·exact .aic (Yu ah _ _ h)
 ·obtain⟨_,i3,aw,h⟩:=binds h;cases h;exact .empty
 ·have E:Qu (O9 l i).tx=7:=by simpa[ac1] using ag
  unfold Tn at h;rw[E] at h;obtain⟨v,a7,h1,h⟩:=binds h;obtain⟨s,i2,U,h⟩:=binds h;have ay:=ac2 ah d _ v a7 h1;have bz:=UE (ah.st _ _) s _ U
  split at h
  ·obtain⟨s2,i3,aw,h⟩:=binds h;cases h;exact .arq ay bz (UE (ah.st _ _) s2 _ aw)
  ·
   cases h;exact .sif ay bz
 ·have E:Qu (O9 l i).tx=8\/Qu (O9 l i).tx=9:=by simpa[ac1] using ag
  unfold Rz at h;obtain⟨v,a7,h1,h⟩:=binds h;obtain⟨s,i2,U,h⟩:=binds h;cases h;exact .loop E (ac2 ah d _ v a7 h1) (UE (ah.st _ _) s _ U)
 ·have E:Qu (O9 l i).tx=10\/Qu (O9 l i).tx=11:=by simpa[ac1] using ag
  unfold TJ at h
  split at h
  ·obtain⟨v,a7,h1,h⟩:=binds h;obtain⟨_,i2,U,h⟩:=binds h;cases h;have ay:=UE (ah.vl _ _) v _ h1;exact .give E (fun u aT=>by rw[List.mem_singleton.1 aT];exact ay) O8 O8
  ·rename_i az
   obtain⟨_,i2,U,h⟩:=binds h;cases h;exact .give E (fun u aT=>by cases aT) O8 (fun e=>absurd (Or.inl e) az)
 ·have z:=Oq (∀{G}(h:G:=by
  have bz:(∀ u ∈ c,RQ (NmL l) (TxL l) (NnL l) 7 u)/\c.length<=1:=by
   unfold VK at U
   split at U
   ·obtain⟨_,bQ,b5,U⟩:=binds U;obtain⟨_,ds,ef,U⟩:=binds U;obtain⟨_,iA,d7,U⟩:=binds U;obtain⟨j3,k4,m4,U⟩:=binds U;cases U;exact⟨fun u aT=>by rw[List.mem_singleton.1 aT];exact .cat (WR ef) (Yu ah _ _ m4),by simp⟩
   ·
    cases U;exact⟨fun u aT=>(by cases aT),by simp⟩
  have ez:(∀ u ∈ f,RQ (NmL l) (TxL l) (NnL l) 8 u)/\f.length<=1:=by
   unfold SH at aw
   split at aw
   ·obtain⟨j3,k4,m4,aw⟩:=binds aw;cases aw;exact⟨fun u aT=>by rw[List.mem_singleton.1 aT];exact .fin (Yu ah _ _ m4),by simp⟩
   ·
    cases aw;exact⟨fun u aT=>(by cases aT),by simp⟩
  split at h
  ·
   cases h
  ·rename_i az
   cases h;exact .atm (Yu ah _ _ h1) bz.1 ez.1 ⟨bz.2,ez.2,by omega⟩),G);exact azZ
theorem afM (d i:Nat):Kh l 1 (PY l F d i):=by
 unfold PY
 split
 ·rename_i ag;exact auo ah d _ i (ayS ag)
 ·intro t j h;unfold Wh at h;obtain⟨v,a7,h1,h⟩:=binds h;obtain⟨_,i2,U,h⟩:=binds h;cases h;exact .expr (UE (ah.vl _ _) v _ h1)
omit ah in
theorem ayT:∀ k,FKh l (fns l k):=by
 intro k
 induction k with
 | zero=>exact⟨fun _ _ _ _ h=>by (cases h),fun _ _ _ _ h=>by (cases h),fun _ _ _ _ _ h=>by (cases h),fun _ _ _ _ h=>by (cases h),fun _ _ _ _ h=>by (cases h),fun _ _ _ _ _ h=>by (cases h),fun _ _ _ _ h=>by (cases h)⟩
 | succ k bn=>exact⟨afM bn,aqU bn,aun bn,ana bn,fun d i t j h=>by
   change Tj l (fns l k) d i=_ at h;unfold Tj at h;obtain⟨u,a7,h1,_⟩:=binds h;exact bn.bp _ _ _ _ _ h1,fun b d i t j h=>by
   change U0 l (fns l k) b d i=_ at h;unfold U0 at h;obtain⟨u,a7,h1,_⟩:=binds h;exact bn.bs _ _ _ _ h1,anb⟩
theorem ah3:∀ k aX i t j,(∀ x ∈ aX,RQ (NmL l) (TxL l) (NnL l) 1 x)->PL l F k aX i=.ok t j->∀ x ∈ t,RQ (NmL l) (TxL l) (NnL l) 1 x:=by
 intro k
 induction k with
 | zero=>intro aX i t j _ h;cases h
 | succ k bn=>
  intro aX i t j ax h;unfold PL at h;exact aD4
theorem aup:Kh l 9 (Uh l F):=by
 intro t j h;unfold Uh at h;obtain⟨ao,a7,h1,h⟩:=binds h;cases h;obtain⟨tx,U,aw⟩:=ahY 1 0 ao;rw[aw];exact .prog U (ah3 ah _ _ _ _ _ (fun _ h=>by cases h) h1)
end
def af4 {aY signs:List OH}{s:OH}{t:Tr}(h:Qd aY signs s=.ok t):∃ l,RH aY signs s (OT Qe s 0) []=.ok l/\RQ (NmL l) (TxL l) (NnL l) 9 t:=by
 unfold Qd at h
 split at h
 ·
  cases h
 ·split at h
  ·
   cases h
  ·rename_i l hl
   refine⟨l,hl,?_⟩
   cases al:Uh l (fns l KK) with
   | out=>rw[al] at h;cases h
   | bad er p=>rw[al] at h;cases h
   | ok t2 j=>
    rw[al] at h;simp only at h
    split at h
    ·
     cases h
    ·
     cases h;exact aup (ayT _) _ _ al
def need (kd:Int):Nat:=if kd=5\/kd=37\/kd=9 then 2 else if kd=13\/kd=24\/kd=34\/kd=35 then 1 else 0
def ar (kd:Int)(n:Nat):Nat:=if need kd<=n then 0 else 1
mutual
def Tr.ill:Tr->Nat
 | .mk kd _ _ ks=>ar kd ks.length+Tr.adf ks
def Tr.adf:List Tr->Nat
 | []=>0
 | t::ao=>t.ill+Tr.adf ao
end
def UK (kd:Int)(tx:OH)(n:Int)(ks:List Tr):(Tr.mk kd tx n ks).ill=ar kd ks.length+Tr.adf ks:=by rw[Tr.ill]
def aoa (kd:Int):need kd<=2:=by
 unfold need
 split
 ·omega
 ·split <;> omega
def avW (kd:Int)(n:Nat)(h:2<=n):ar kd n=0:=by
 unfold ar;rw[if_pos (Nat.le_trans (aoa kd) h)]
def Xe:Tr.adf []=0:=by rw[Tr.adf]
def TD (t:Tr)(ao:List Tr):Tr.adf (t::ao)=t.ill+Tr.adf ao:=by rw[Tr.adf]
def ags:∀ (ks:List Tr),Tr.adf ks=0->∀ k ∈ ks,k.ill=0
 | [],_=>fun k E=>absurd E O8
 | t::ao,h=>fun k E=>by
  rw[TD] at h
  rcases List.mem_cons.1 E with rfl|E
  ·omega
  ·exact ags ao Ou k E
def abI (t:Tr)(h:t.ill=0):need t.kd<=t.kids.length/\∀ k ∈ t.kids,k.ill=0:=by
 cases t with
 | mk kd tx n ks=>
  rw[UK] at h;refine⟨?_,ags ks Ou⟩;have h1:ar kd ks.length=0:=Ou;unfold ar at h1
  split at h1
  ·assumption
  ·omega
def TF:∀ ao:List Tr,(∀ u ∈ ao,u.ill=0)->Tr.adf ao=0
 | [],_=>Xe
 | t::ao,h=>by rw[TD,h t (List.mem_cons_self ..),TF ao (fun u aT=>h u (List.mem_cons_of_mem _ aT))]
def RQ.ill {cW dl:OH->Prop}{dk:Int->Prop}{c:Nat}{t:Tr}(h:RQ cW dl dk c t):t.ill=0:=by
 induction h with
 | aic _ bn=>exact bn
 | call _ _ _ bn l0=>rw[UK,TD,bn,TF _ l0];rfl
 | decl E _ _ _ _ l0=>rw[UK,TF _ l0];rcases E with rfl|rfl|rfl <;> simp[ar,need]
 | give E _ _ _ l0=>rw[UK,TF _ l0];rcases E with rfl|rfl <;> simp[ar,need]
 | atm _ _ _ _ bn J7 J8=>
  rw[UK,TD,bn,TF _ (fun u aT=>(List.mem_append.1 aT).elim (J7 u) (J8 u))];simp[ar,need]
 | obj _ _ l0=>rw[UK,TF _ l0];simp[ar,need]
 | ali _ _ l0=>rw[UK,TF _ l0];simp[ar,need]
 | blk _ l0=>rw[UK,TF _ l0];simp[ar,need]
 | body _ _ l0=>rw[UK,TF _ l0];simp[ar,need]
 | prog _ _ l0=>rw[UK,TF _ l0];simp[ar,need]
 | lit E=>rw[UK,Xe];rcases E with rfl|rfl|rfl|rfl <;> simp[ar,need]
 | one E _ bn=>rw[UK,TD,Xe,bn];rcases E with rfl|rfl|rfl <;> simp[ar,need]
 | two E _ _ bn BH=>rw[UK,TD,TD,Xe,bn,BH,avW _ _ O8]
 | loop E _ _ bn BH=>rw[UK,TD,TD,Xe,bn,BH];rcases E with rfl|rfl <;> simp[ar,need]
 | _=>simp[UK,TD,Xe,ar,need, *]
def adC {aY bb:List OH}{s:OH}{t:Tr}(h:Qd aY bb s=.ok t):t.ill=0:=by
 obtain⟨_,_,h⟩:=af4 h;exact h.ill
def wrT (t:Tr)(s i b:Bool):Option Int:=
 if t.kd=1 then scE t true
 else if t.kd=6 then scE t b
 else if t.kd=5\/t.kd=37 then fnE t s
 else if t.kd=2\/t.kd=3\/t.kd=4 then nmE s t.tx
 else if t.kd=13 then X5 t s
 else if t.kd=7\/t.kd=8\/t.kd=9 then brE t s
 else if t.kd=10 then (if i then none else some 6)
 else if t.kd=24 then (if (Qk t 0).kd=23 then nmE s (Qk t 0).tx else none)
 else if t.kd=34 then (if s&&(Qk t 0).kd==23 then some 1 else none)
 else none
section
variable (t:Tr) (p:Nat) (s i b:Bool) (w:Ov) (h:UA w t p) (aj:t.count<=20000)
include h aj
theorem aGh (bo:t.kd=1):OE 104 #[Oo p,X0 s i b] w fun e w'=>e=OQ (Vs (scE t true))/\OD w w':=by
 have z:=Oq (∀{G}(h:G:=by
 have ai:=(X3 t p true ek wl aj);have h0:=ku.c0;have h1:=ku.c1;have U:=ku.c2
 generalize scE t true=er at ai
 exact anE),G);exact zsq
theorem aGi (bo:t.kd=6):OE 104 #[Oo p,X0 s i b] w fun e w'=>e=OQ (Vs (scE t b))/\OD w w':=by
 have z:=Oq (∀{G}(h:G:=by
 have ai:=(X3 t p b ek wl aj);have h0:=ku.c0;have h1:=ku.c1;have U:=ku.c2
 generalize scE t b=er at ai
 exact anE),G);exact zsq
theorem aGj (bo:t.kd=5)(E:2<=t.kids.length):OE 104 #[Oo p,X0 s i b] w fun e w'=>e=OQ (Vs (fnE t s))/\OD w w':=azB
theorem azC (bo:t.kd=37)(E:2<=t.kids.length):OE 104 #[Oo p,X0 s i b] w fun e w'=>e=OQ (Vs (fnE t s))/\OD w w':=azB
theorem azD (bo:t.kd=13)(E:1<=t.kids.length):OE 104 #[Oo p,X0 s i b] w fun e w'=>e=OQ (Vs (X5 t s))/\OD w w':=by
 have z:=Oq (∀{G}(h:G:=by
 have ai:=(abE t p s i b ek wl E aj);have h0:=ku.c0;have h1:=ku.c1;have U:=ku.c2
 generalize X5 t s=er at ai
 exact anE),G);exact zsq
theorem aGk (bo:t.kd=7):OE 104 #[Oo p,X0 s i b] w fun e w'=>e=OQ (Vs (brE t s))/\OD w w':=avF
theorem aGl (bo:t.kd=8):OE 104 #[Oo p,X0 s i b] w fun e w'=>e=OQ (Vs (brE t s))/\OD w w':=avF
theorem aGm (bo:t.kd=9):OE 104 #[Oo p,X0 s i b] w fun e w'=>e=OQ (Vs (brE t s))/\OD w w':=avF
theorem aGn (bo:t.kd=2):OE 104 #[Oo p,X0 s i b] w fun e w'=>e=OQ (Vs (nmE s t.tx))/\OD w w':=avG
theorem aGo (bo:t.kd=3):OE 104 #[Oo p,X0 s i b] w fun e w'=>e=OQ (Vs (nmE s t.tx))/\OD w w':=avG
theorem aGp (bo:t.kd=4):OE 104 #[Oo p,X0 s i b] w fun e w'=>e=OQ (Vs (nmE s t.tx))/\OD w w':=avG
theorem azE (bo:t.kd=10):OE 104 #[Oo p,X0 s i b] w fun e w'=>e=OQ (Vs (if i then none else some 6))/\OD w w':=by
 have z:=Oq (∀{G}(h:G:=by
 have h1:=ku.c1;rw[iy] at h1 hQ;clear h aj gQ cM bo c3 c1 iy
 cases i <;>
 ·exact avH),G);exact zsq
theorem azF (bo:t.kd=24)(E:1<=t.kids.length):OE 104 #[Oo p,X0 s i b] w fun e w'=>e=OQ (Vs (if (Qk t 0).kd=23 then nmE s (Qk t 0).tx else none))/\OD w w':=by
 have z:=Oq (∀{G}(h:G:=by
 have jo:=hQ;obtain⟨g,cap,q,rfl,hg,AB,iw⟩:=aa.cell 0 Ou;rw[<-Xx t 0 Ou] at iw;obtain⟨dz,ce,bQ,_⟩:=iw.cells;have k3:=hide (fun W=>Vt s i b (Qk t 0).tx W);have fi:=hide (O4 hQ bQ);have hpl2:=cell_lt fi.out
 generalize (Qk t 0).tx=tx at k3 fi bQ
 generalize (Qk t 0).kd=j7 at ce
 generalize t.kids.length=L at c3 E cM
 generalize nmE s tx=er at k3
 clear h aj gQ bo c1 bQ
 by_cases io:j7=23
 ·subst io;simp only[if_true];have z:=Oq (∀{G}(h:G:=by
  refine wh 0 (Oo q) ab ?_;refine wh 1 (Oo q) ab ?_;refine wh 2 (OM q 1) ab ?_;have z:=Oq (∀{G}(h:G:=by
  cases er <;>
  ·unfold Vs;go_wp2;go_ret;exact⟨rfl,jo.trans (f9.mono jo.size)⟩),G);exact azG),G);exact azH
 ·have ML:(j7==23)=false:=by simpa using io
  simp only[if_neg io];rw[iy] at jo;clear io iy;go_enter func104,ntmps104;go_wp2;go_ret;exact⟨rfl,jo⟩),G);exact zsq
theorem azI (bo:t.kd=34)(E:1<=t.kids.length):OE 104 #[Oo p,X0 s i b] w fun e w'=>e=OQ (Vs (if s&&(Qk t 0).kd==23 then some 1 else none))/\OD w w':=by
 have z:=Oq (∀{G}(h:G:=by
 obtain⟨g,cap,q,rfl,hg,AB,iw⟩:=aa.cell 0 Ou;rw[<-Xx t 0 Ou] at iw;obtain⟨dz,ce,bQ,_⟩:=iw.cells
 generalize (Qk t 0).tx=tx at bQ
 generalize (Qk t 0).kd=j7 at ce
 generalize t.kids.length=L at c3 E cM
 have h0:=ku.c0;rw[iy] at h0 hQ;clear h aj gQ bo c1 bQ iy
 cases s with
 | false=>
  exact avH
 | true=>
  cases io:(j7==23) <;>
  ·exact avH),G);exact zsq
omit aj in
theorem wrE (gM:t.kd≠1/\t.kd≠6/\t.kd≠5/\t.kd≠37/\t.kd≠2/\t.kd≠3/\t.kd≠4/\t.kd≠13/\t.kd≠7/\t.kd≠8/\t.kd≠9/\t.kd≠10/\t.kd≠24/\t.kd≠34):OE 104 #[Oo p,X0 s i b] w fun e w'=>e=OQ (Vs none)/\OD w w':=by
 obtain⟨eP,c0,_,_⟩:=h.cells;have jo:=((Below.refl w.heap.size w).alloc O6 (.cells #[OC s,OC i,OC b] 112));clear h
 generalize t.kd=kd at c0 gM
 obtain⟨bR,pb,pa,yz,c7,hD,rG,E7,pc,rH,yA,yw,yx,yy⟩:=gM;have cO:(kd==1)=false:=by simpa using bR
 have NL:(kd==6)=false:=by simpa using pb
 have NK:(kd==5)=false:=by simpa using pa
 have NI:(kd==37)=false:=by simpa using yz
 have cP:(kd==2)=false:=by simpa using c7
 have df:(kd==3)=false:=by simpa using hD
 have NJ:(kd==4)=false:=by simpa using rG
 have NF:(kd==13)=false:=by simpa using E7
 have NM:(kd==7)=false:=by simpa using pc
 have NN:(kd==8)=false:=by simpa using rH
 have NO:(kd==9)=false:=by simpa using yA
 have NE:(kd==10)=false:=by simpa using yw
 have NG:(kd==24)=false:=by simpa using yx
 have NH:(kd==34)=false:=by simpa using yy
 clear bR pb pa yz c7 hD rG E7 pc rH yA yw yx yy;go_enter func104,ntmps104;go_wp2;go_ret;exact⟨rfl,jo⟩
theorem W9 (h7:need t.kd<=t.kids.length):OE 104 #[Oo p,X0 s i b] w fun e w'=>e=OQ (Vs (wrT t s i b))/\OD w w':=by
 unfold wrT
 by_cases bQ:t.kd=1
 ·rw[if_pos bQ];exact aGh t p s i b w h aj bQ
 rw[if_neg bQ]
 by_cases uB:t.kd=6
 ·rw[if_pos uB];exact aGi t p s i b w h aj uB
 rw[if_neg uB]
 by_cases mG:t.kd=5\/t.kd=37
 ·rw[if_pos mG];have az:need t.kd=2:=by unfold need;rw[if_pos (mG.imp id Or.inl)]
  rcases mG with k|k
  ·exact aGj t p s i b w h aj k Ou
  ·exact azC t p s i b w h aj k Ou
 rw[if_neg mG]
 by_cases ds:t.kd=2\/t.kd=3\/t.kd=4
 ·rw[if_pos ds]
  rcases ds with k|k|k
  ·exact aGn t p s i b w h aj k
  ·exact aGo t p s i b w h aj k
  ·exact aGp t p s i b w h aj k
 rw[if_neg ds];have az:∀ c:Int,(c=13\/c=24\/c=34)->t.kd=c->1<=t.kids.length:=fun c sI e=>by
  have:need t.kd=1:=by
   rw[e]
   rcases sI with rfl|rfl|rfl <;> decide
  omega
 by_cases wU:t.kd=13
 ·rw[if_pos wU];exact azD t p s i b w h aj wU (az _ O8 wU)
 rw[if_neg wU]
 by_cases rC:t.kd=7\/t.kd=8\/t.kd=9
 ·rw[if_pos rC]
  rcases rC with k|k|k
  ·exact aGk t p s i b w h aj k
  ·exact aGl t p s i b w h aj k
  ·exact aGm t p s i b w h aj k
 rw[if_neg rC]
 by_cases yn:t.kd=10
 ·rw[if_pos yn];exact azE t p s i b w h aj yn
 rw[if_neg yn]
 by_cases o8:t.kd=24
 ·rw[if_pos o8];exact azF t p s i b w h aj o8 (az _ O8 o8)
 rw[if_neg o8]
 by_cases o9:t.kd=34
 ·rw[if_pos o9];exact azI t p s i b w h aj o9 (az _ O8 o9)
 rw[if_neg o9];exact wrE t p s i b w h ⟨bQ,uB,fun e=>mG (Or.inl e),fun e=>mG (Or.inr e),fun e=>ds (Or.inl e),fun e=>ds (Or.inr (Or.inl e)),fun e=>ds (Or.inr (Or.inr e)),wU,fun e=>rC (Or.inl e),fun e=>rC (Or.inr (Or.inl e)),fun e=>rC (Or.inr (Or.inr e)),yn,o8,o9⟩
end
def s2 (t:Tr)(s:Bool):Bool:=if Ru t then (s||Pg t)||Pg (Qk t 1) else s||Pg t
def i2 (t:Tr)(i:Bool):Bool:=if Ru t then true else i
mutual
def chk:Tr->Bool->Bool->Bool->Option Int
 | .mk kd tx n ks,s,i,b=>match wrT (.mk kd tx n ks) (s2 (.mk kd tx n ks) s) (i2 (.mk kd tx n ks) i) b with
  | some e=>some e
  | none=>TS ks (s2 (.mk kd tx n ks) s) (i2 (.mk kd tx n ks) i) (Ru (.mk kd tx n ks))
def TS:List Tr->Bool->Bool->Bool->Option Int
 | [],_,_,_=>none
 | t::ao,s,i,b=>match chk t s i b with
  | some e=>some e
  | none=>TS ao s i b
end
def abH (t:Tr)(s i b:Bool):chk t s i b=match wrT t (s2 t s) (i2 t i) b with
  | some e=>some e
  | none=>TS t.kids (s2 t s) (i2 t i) (Ru t):=by
 cases t with
 | mk kd tx n ks=>rw[chk];rfl
def Xa:∀ (ao:List Tr) (s i b:Bool) (k:Nat) (E:k<ao.length),TS (ao.take k) s i b=none->chk ao[k] s i b=none->TS (ao.take (k+1)) s i b=none
 | [],_,_,_,k,E=>absurd E O8
 | t::ao,s,i,b,0,_=>fun _ h=>by
  rw[List.take_succ_cons,List.take_zero,TS];rw[show chk t s i b=none from h];rw[TS]
 | t::ao,s,i,b,k+1,E=>fun h1 U=>by
  rw[List.take_succ_cons,TS] at h1 ⊢
  cases h:chk t s i b with
  | some e=>rw[h] at h1;cases h1
  | none=>
   rw[h] at h1;exact Xa ao s i b k (by simpa using E) h1 U
def X6:∀ (ao:List Tr) (s i b:Bool) (k:Nat) (E:k<ao.length) (e:Int),TS (ao.take k) s i b=none->chk ao[k] s i b=some e->TS ao s i b=some e
 | [],_,_,_,k,E,_=>absurd E O8
 | t::ao,s,i,b,0,_,e=>fun _ h=>by
  rw[TS,show chk t s i b=some e from h]
 | t::ao,s,i,b,k+1,E,e=>fun h1 U=>by
  rw[List.take_succ_cons,TS] at h1;rw[TS]
  cases h:chk t s i b with
  | some e=>rw[h] at h1;cases h1
  | none=>
   rw[h] at h1;exact X6 ao s i b k (by simpa using E) e h1 U
abbrev PlB (b:Nat)(s i d:Bool)(w:Ov):Prop:=w.heap[b]? = some (O1 #[OC s,OC i,OC d] 112)
def PlB.at {b:Nat}{s i d:Bool}{w:Ov}(h:PlB b s i d w):XT b s i d w:=⟨by rw[cell_of h];rfl,by rw[cell_of h];rfl,by rw[cell_of h];rfl⟩
def aus (m:Nat):Prop:=∀ (t:Tr),t.count<=m->t.ill=0->t.count<=20000->∀ (p:Nat) (s i b:Bool) (w:Ov),UA w t p ->
  OE 48 #[Oo p,X0 s i b] w fun e w'=>e=OQ (Vs (chk t s i b))/\OD w w'
section
variable {m:Nat} (bn:aus m) (t:Tr) (bc:t.count<=m+1) (h7:t.ill=0) (aj:t.count<=20000) (p:Nat) (i b:Bool) (w:Ov) (h:UA w t p)
include bn bc h7 aj h
theorem azJ (kS:Ru t=false):OE 48 #[Oo p,X0 true i b] w fun e w'=>e=OQ (Vs (chk t true i b))/\OD w w':=by
 have z:=Oq (∀{G}(h:G:=by
 obtain⟨n2,oS⟩:=abI t h7;have ll:s2 t true=true:=by unfold s2;rw[kS];simp[]
 have jM:i2 t i=i:=by unfold i2;rw[kS];rfl
 have mr:=abH t true i b;have z:=Oq (∀{G}(h:G:=by
 have mf:=hide (fun W (a1:OD w W)=>W9 t p true i b W (e' W a1) aj n2);have nz:Hid (∀ W,OD w W->OE 102 #[Oo p] W fun e w'=>e=OQ (OC false)/\w'=W):=fun W a1=>avI
 have z:=Oq (∀{G}(h:G:=by
 have nB:Hid (∀ (k:Nat) (E:k<t.kids.length) (q:Nat) (W:Ov),UA W t.kids[k] q->OE 48 #[Oo q,X0 true i false] W fun e w'=>e=OQ (Vs (chk t.kids[k] true i false))/\OD W w'):=fun k E q W ag=>by
  have h1:=UO t.kids k E;exact bn t.kids[k] Ou (oS _ (List.getElem_mem _)) Ou q true i false W ag
 obtain⟨er,nW⟩:=xE (wrT t true i b);obtain⟨vE,fH⟩:=xE (TS t.kids true i false);rw[<-nW,<-fH] at mr;simp only[<-nW] at mf;rw[mr];have tj:=hide fH;have jo:=((Below.refl w.heap.size w).alloc O6 (.cells #[OC true,OC i,OC b] 112));clear bc h7 aj h gQ n2 oS ll jM e' nW fH mr;go_enter func48,ntmps48;have z:=Oq (∀{G}(h:G:=by
 obtain⟨oa,ls⟩:=xE (w.alloc (.cells #[OC true,OC i,OC b] 112));have hT:OD w oa:=by rw[ls];exact PO
 have kK:PlB w.heap.size true i b oa:=by rw[ls];exact OA _ _
 have z:=Oq (∀{G}(h:G:=by
 have n7:PlB w.heap.size true i b dG:=(eU.block w.heap.size (lt_of_heap kK)).trans kK;have cq:=(hT.trans (eU.mono hT.size));clear ls
 cases er with
 | some e=>
  unfold Vs;go_wp2;go_ret;exact⟨rfl,cq⟩
 | none=>
  have z:=Oq (∀{G}(h:G:=by
  obtain⟨ja,gS⟩:=xE (jk.setCell (Ot w.heap.size 2) (OC false));have o1:PlB w.heap.size true i false ja:=by rw[gS,PlB,heap_set n7];rfl
  have z:=Oq (∀{G}(h:G:=by
  go_loopw [41] (fun j wr=>∃ k:Nat,k<=t.kids.length/\j=Ol k/\TS (t.kids.take k) true i false=none/\OD ja wr) (fun j _=>t.kids.length - (intOf j).toNat)
  case atStart=>exact⟨0,Nat.zero_le _,rfl,by rw[List.take_zero,TS],QX⟩
  case round=>
   obtain⟨k,E,rfl,fv,D⟩:=hrel;have fL:=hide fv;clear fv
   by_cases aQ:k<t.kids.length
   ·have z:=Oq (∀{G}(h:G:=by
    have sQ:PlB w.heap.size true i false wr:=(D.block w.heap.size (lt_of_heap o1)).trans o1;have z:=Oq (∀{G}(h:G:=by
    have h2:=hide (fun e=>X6 t.kids true i false k aQ e fL.out);have el:=hide (Xa t.kids true i false k aQ fL.out)
    generalize chk t.kids[k] true i false=r at ai h2 el
    exact aDw),G);exact arD),G);exact arE
   ·exact aDE),G);exact azK),G);exact arF),G);exact arG),G);exact arH),G);exact anF),G);exact anG),G);exact zsw
theorem azL (kS:Ru t=true):OE 48 #[Oo p,X0 true i b] w fun e w'=>e=OQ (Vs (chk t true i b))/\OD w w':=by
 have z:=Oq (∀{G}(h:G:=by
 obtain⟨n2,oS⟩:=abI t h7;have ll:s2 t true=true:=by unfold s2;rw[kS];simp[]
 have jM:i2 t i=true:=by unfold i2;rw[kS];rfl
 have mr:=abH t true i b;have z:=Oq (∀{G}(h:G:=by
 have mf:=hide (fun W (a1:OD w W)=>W9 t p true true b W (e' W a1) aj n2);have z:=Oq (∀{G}(h:G:=by
 have z:=Oq (∀{G}(h:G:=by
 have z:=Oq (∀{G}(h:G:=by
 have jo:=((Below.refl w.heap.size w).alloc O6 (.cells #[OC true,OC i,OC b] 112));clear bc h7 aj h gQ n2 oS ll jM e' nW fH mr;go_enter func48,ntmps48;exact azM),G);exact azN),G);exact anF),G);exact avL),G);exact anG),G);exact zsw
theorem azO (kS:Ru t=false):OE 48 #[Oo p,X0 false i b] w fun e w'=>e=OQ (Vs (chk t false i b))/\OD w w':=by
 have z:=Oq (∀{G}(h:G:=by
 obtain⟨n2,oS⟩:=abI t h7;have ll:s2 t false=(Pg t):=by unfold s2;rw[kS];simp[]
 have jM:i2 t i=i:=by unfold i2;rw[kS];rfl
 have mr:=abH t false i b;have z:=Oq (∀{G}(h:G:=by
 have mf:=hide (fun W (a1:OD w W)=>W9 t p (Pg t) i b W (e' W a1) aj n2);have nz:Hid (∀ W,OD w W->OE 102 #[Oo p] W fun e w'=>e=OQ (OC false)/\w'=W):=fun W a1=>avI
 have hZ:=hide (fun W (a1:OD w W)=>TU t p W (e' W a1));have z:=Oq (∀{G}(h:G:=by
 have nB:Hid (∀ (k:Nat) (E:k<t.kids.length) (q:Nat) (W:Ov),UA W t.kids[k] q->OE 48 #[Oo q,X0 (Pg t) i false] W fun e w'=>e=OQ (Vs (chk t.kids[k] (Pg t) i false))/\OD W w'):=fun k E q W ag=>by
  have h1:=UO t.kids k E;exact bn t.kids[k] Ou (oS _ (List.getElem_mem _)) Ou q (Pg t) i false W ag
 obtain⟨er,nW⟩:=xE (wrT t (Pg t) i b);obtain⟨vE,fH⟩:=xE (TS t.kids (Pg t) i false);have z:=Oq (∀{G}(h:G:=by
 generalize Pg t=st at mf hZ nB tj
 have z:=Oq (∀{G}(h:G:=by
 rintro e fh ⟨rfl,rfl⟩;have z:=Oq (∀{G}(h:G:=by
 obtain⟨oa,ls⟩:=xE (w.alloc (.cells #[OC st,OC i,OC b] 112));have hT:OD w oa:=by rw[ls];exact PO
 have kK:PlB w.heap.size st i b oa:=by rw[ls];exact OA _ _
 have z:=Oq (∀{G}(h:G:=by
 have n7:PlB w.heap.size st i b dG:=(eU.block w.heap.size (lt_of_heap kK)).trans kK;have cq:=(hT.trans (eU.mono hT.size));clear ls
 cases er with
 | some e=>
  unfold Vs;go_wp2;go_ret;exact⟨rfl,cq⟩
 | none=>
  have z:=Oq (∀{G}(h:G:=by
  obtain⟨ja,gS⟩:=xE (jk.setCell (Ot w.heap.size 2) (OC false));have o1:PlB w.heap.size st i false ja:=by rw[gS,PlB,heap_set n7];rfl
  have z:=Oq (∀{G}(h:G:=by
  go_loopw [41] (fun j wr=>∃ k:Nat,k<=t.kids.length/\j=Ol k/\TS (t.kids.take k) st i false=none/\OD ja wr) (fun j _=>t.kids.length - (intOf j).toNat)
  case atStart=>exact⟨0,Nat.zero_le _,rfl,by rw[List.take_zero,TS],QX⟩
  case round=>
   obtain⟨k,E,rfl,fv,D⟩:=hrel;have fL:=hide fv;clear fv
   by_cases aQ:k<t.kids.length
   ·have z:=Oq (∀{G}(h:G:=by
    have sQ:PlB w.heap.size st i false wr:=(D.block w.heap.size (lt_of_heap o1)).trans o1;have z:=Oq (∀{G}(h:G:=by
    have h2:=hide (fun e=>X6 t.kids st i false k aQ e fL.out);have el:=hide (Xa t.kids st i false k aQ fL.out)
    generalize chk t.kids[k] st i false=r at ai h2 el
    exact aDw),G);exact arD),G);exact arE
   ·exact aDE),G);exact azK),G);exact arF),G);exact arG),G);exact arH),G);exact avM),G);exact azP),G);exact anF),G);exact anG),G);exact zsw
theorem azQ (kS:Ru t=true)(bI:Pg t=true):OE 48 #[Oo p,X0 false i b] w fun e w'=>e=OQ (Vs (chk t false i b))/\OD w w':=by
 have z:=Oq (∀{G}(h:G:=by
 obtain⟨n2,oS⟩:=abI t h7;have ll:s2 t false=true:=by unfold s2;rw[kS];simp[bI]
 have jM:i2 t i=true:=by unfold i2;rw[kS];rfl
 have mr:=abH t false i b;have z:=Oq (∀{G}(h:G:=by
 have mf:=hide (fun W (a1:OD w W)=>W9 t p true true b W (e' W a1) aj n2);have z:=Oq (∀{G}(h:G:=by
 have hZ:=hide (fun W (a1:OD w W)=>TU t p W (e' W a1));have z:=Oq (∀{G}(h:G:=by
 have z:=Oq (∀{G}(h:G:=by
 have jo:=((Below.refl w.heap.size w).alloc O6 (.cells #[OC false,OC i,OC b] 112));simp only[bI] at hZ;have z:=Oq (∀{G}(h:G:=by
 rintro e fh ⟨rfl,rfl⟩;exact azM),G);exact avM),G);exact azN),G);exact anF),G);exact avL),G);exact anG),G);exact zsw
theorem azR (kS:Ru t=true)(bI:Pg t=false):OE 48 #[Oo p,X0 false i b] w fun e w'=>e=OQ (Vs (chk t false i b))/\OD w w':=by
 have z:=Oq (∀{G}(h:G:=by
 obtain⟨n2,oS⟩:=abI t h7;have ll:s2 t false=(Pg (Qk t 1)):=by unfold s2;rw[kS];simp[bI]
 have jM:i2 t i=true:=by unfold i2;rw[kS];rfl
 have mr:=abH t false i b;have z:=Oq (∀{G}(h:G:=by
 have mf:=hide (fun W (a1:OD w W)=>W9 t p (Pg (Qk t 1)) true b W (e' W a1) aj n2);have z:=Oq (∀{G}(h:G:=by
 have hZ:=hide (fun W (a1:OD w W)=>TU t p W (e' W a1));have z:=Oq (∀{G}(h:G:=by
 have CO:=hide (fun(q:Nat) (W:Ov) (ag:UA W (Qk t 1) q)=>TU (Qk t 1) q W ag);have nB:Hid (∀ (k:Nat) (E:k<t.kids.length) (q:Nat) (W:Ov),UA W t.kids[k] q->OE 48 #[Oo q,X0 (Pg (Qk t 1)) true true] W fun e w'=>e=OQ (Vs (chk t.kids[k] (Pg (Qk t 1)) true true))/\OD W w'):=fun k E q W ag=>by
  have h1:=UO t.kids k E;exact bn t.kids[k] Ou (oS _ (List.getElem_mem _)) Ou q (Pg (Qk t 1)) true true W ag
 obtain⟨er,nW⟩:=xE (wrT t (Pg (Qk t 1)) true b);obtain⟨vE,fH⟩:=xE (TS t.kids (Pg (Qk t 1)) true true);have z:=Oq (∀{G}(h:G:=by
 simp only[bI] at hZ
 generalize Pg (Qk t 1)=st at mf nB tj CO
 have z:=Oq (∀{G}(h:G:=by
 rintro e fh ⟨rfl,rfl⟩;have z:=Oq (∀{G}(h:G:=by
 refine cm (Om lE kS _ ((Below.refl w.heap.size w).alloc O6 _)) ?_;rintro e cp ⟨⟨q,rfl,ag⟩,rfl⟩;have ai:=(Om CO q _ ag);go_wp2_with fail;refine cm ai ?_;rintro e cp ⟨rfl,rfl⟩;go_wp2_with fail;obtain⟨oa,ls⟩:=xE (w.alloc (.cells #[OC st,OC true,OC b] 112));have hT:OD w oa:=by rw[ls];exact PO
 have kK:PlB w.heap.size st true b oa:=by rw[ls];exact OA _ _
 have z:=Oq (∀{G}(h:G:=by
 have n7:PlB w.heap.size st true b dG:=(eU.block w.heap.size (lt_of_heap kK)).trans kK;have cq:=(hT.trans (eU.mono hT.size));clear ls
 cases er with
 | some e=>
  unfold Vs;go_wp2;go_ret;exact⟨rfl,cq⟩
 | none=>
  have z:=Oq (∀{G}(h:G:=by
  obtain⟨ja,gS⟩:=xE (jk.setCell (Ot w.heap.size 2) (OC true));have o1:PlB w.heap.size st true true ja:=by rw[gS,PlB,heap_set n7];rfl
  have dh:OD w ja:=aDF
  have z:=Oq (∀{G}(h:G:=by
  go_loopw [41] (fun j wr=>∃ k:Nat,k<=t.kids.length/\j=Ol k/\TS (t.kids.take k) st true true=none/\OD ja wr) (fun j _=>t.kids.length - (intOf j).toNat)
  case atStart=>exact⟨0,Nat.zero_le _,rfl,by rw[List.take_zero,TS],QX⟩
  case round=>
   obtain⟨k,E,rfl,fv,D⟩:=hrel;have fL:=hide fv;clear fv
   by_cases aQ:k<t.kids.length
   ·have z:=Oq (∀{G}(h:G:=by
    have sQ:PlB w.heap.size st true true wr:=(D.block w.heap.size (lt_of_heap o1)).trans o1;have z:=Oq (∀{G}(h:G:=by
    have h2:=hide (fun e=>X6 t.kids st true true k aQ e fL.out);have el:=hide (Xa t.kids st true true k aQ fL.out)
    generalize chk t.kids[k] st true true=r at ai h2 el
    exact aDw),G);exact arD),G);exact arE
   ·exact aDE),G);exact azT),G);exact arF),G);exact arG),G);exact arH),G);exact avM),G);exact azP),G);exact anF),G);exact avL),G);exact anG),G);exact zsw
end
def aln:∀ m,aus m:=by
 intro m
 induction m with
 | zero=>
  exact avN
 | succ m bn=>
  intro t bc h7 aj p s i b w h
  cases s with
  | true=>
   cases aH:Ru t with
   | true=>exact azL bn t bc h7 aj p i b w h aH
   | false=>exact azJ bn t bc h7 aj p i b w h aH
  | false=>
   cases aH:Ru t with
   | false=>exact azO bn t bc h7 aj p i b w h aH
   | true=>
    cases ac:Pg t with
    | true=>exact azQ bn t bc h7 aj p i b w h aH ac
    | false=>exact azR bn t bc h7 aj p i b w h aH ac
def adG (t:Tr)(p:Nat)(s i:Bool)(w:Ov)(h:UA w t p)(h7:t.ill=0)(aj:t.count<=20000):OE 26 #[Oo p,OC s,OC i] w fun e w'=>e=OQ (Vs (chk t s i false))/\OD w w':=by
 have ai:=(aln t.count t O6 h7 aj p s i false w h);clear h h7 aj
 generalize chk t s i false=r at ai
 cases r <;>
 ·go_enter func26,ntmps26;go_wp2_with fail;refine cm ai ?_;rintro e w1 ⟨rfl,D⟩;unfold Vs;go_wp2;go_ret;exact⟨rfl,D⟩
def X7 {s fd:Bool}{x:OH}(ac:fd=true->s=true)(h:nmE s x=none):nmE fd x=none:=by
 unfold nmE at h ⊢
 cases fd with
 | false=>rfl
 | true=>rw[ac rfl] at h;exact h
def alo {s fd:Bool}{P:List Tr}{k:Nat}(ac:fd=true->s=true)(h:Vj s P k=none):Vj fd P k=none:=by
 unfold Vj at h ⊢
 cases h1:nmE s (ada P k) with
 | some e=>rw[h1] at h;cases h
 | none=>
  rw[h1] at h;rw[X7 ac h1]
  cases fd with
  | false=>rfl
  | true=>rw[ac rfl] at h;exact h
def aaM {f g:Nat->Option Int}(D6:∀ k,f k=none->g k=none):∀ n,UG f n=none->UG g n=none
 | 0,_=>rfl
 | n+1,h=>by
  rw[UG] at h ⊢
  cases h1:UG f n with
  | some e=>rw[h1] at h;cases h
  | none=>
   rw[h1] at h;rw[aaM D6 n h1];exact D6 n h
section
variable {s fd:Bool} {t:Tr} (ac:fd=true->s=true)
include s fd t ac
theorem anH (h:fnE t s=none):fnE t fd=none:=by
 unfold fnE at h ⊢
 cases h1:nmE s t.tx with
 | some e=>rw[h1] at h;cases h
 | none=>
  rw[h1] at h;rw[X7 ac h1]
  cases U:arz s (Qk t 0).kids with
  | some e=>simp only[U] at h;cases h
  | none=>
   simp only[U] at h;have aw:arz fd (Qk t 0).kids=none:=aaM (fun k=>alo ac) _ U;simp only[aw];exact h
theorem af7 (h:X5 t s=none):X5 t fd=none:=by
 unfold X5 at h ⊢
 cases h1:nmE s t.tx with
 | some e=>rw[h1] at h;cases h
 | none=>
  rw[h1] at h;rw[X7 ac h1];exact h
theorem anI (h:brE t s=none):brE t fd=none:=by
 unfold brE at h ⊢
 cases fd with
 | true=>rw[ac rfl] at h;exact h
 | false=>
  split at h
  ·
   cases h
  ·rename_i az
   rw[if_neg];intro hh;exact az (by simp at hh ⊢;exact Or.inr hh)
end
def anJ {t:Tr}{s fd i hk b:Bool}(ac:fd=true->s=true)(am:i=true->hk=true)(h:wrT t s i b=none):wrT t fd hk b=none:=by
 unfold wrT at h ⊢
 split at h
 ·rename_i k;rw[if_pos k];exact h
 rename_i bQ;rw[if_neg bQ]
 split at h
 ·rename_i k;rw[if_pos k];exact h
 rename_i ds;rw[if_neg ds]
 split at h
 ·rename_i k;rw[if_pos k];exact anH ac h
 rename_i iA;rw[if_neg iA]
 split at h
 ·rename_i k;rw[if_pos k];exact X7 ac h
 rename_i k4;rw[if_neg k4]
 split at h
 ·rename_i k;rw[if_pos k];exact af7 ac h
 rename_i mG;rw[if_neg mG]
 split at h
 ·rename_i k;rw[if_pos k];exact anI ac h
 rename_i uB;rw[if_neg uB]
 split at h
 ·rename_i k
  rw[if_pos k]
  split at h
  ·rename_i hh;rw[if_pos (am hh)]
  ·
   cases h
 rename_i rC;rw[if_neg rC]
 split at h
 ·rename_i k
  rw[if_pos k]
  split at h
  ·rename_i hh;rw[if_pos hh];exact X7 ac h
  ·rename_i hh;rw[if_neg hh]
 rename_i Ke;rw[if_neg Ke]
 split at h
 ·rename_i k
  rw[if_pos k]
  cases fd with
  | false=>rfl
  | true=>rw[ac rfl] at h;exact h
 ·rename_i k;rw[if_neg k]
def akf {t:Tr}{s fd:Bool}(ac:fd=true->s=true):s2 t fd=true->s2 t s=true:=by
 unfold s2
 cases fd with
 | false=>cases s <;> cases Ru t <;> simp <;> exact fun h=>h
 | true=>rw[ac rfl];exact fun h=>h
def akg {t:Tr}{i hk:Bool}(am:i=true->hk=true):i2 t i=true->i2 t hk=true:=by
 unfold i2
 cases Ru t with
 | true=>exact fun h=>h
 | false=>exact am
mutual
def anK:∀ (t:Tr) {s fd i hk b:Bool},(fd=true->s=true)->(i=true->hk=true)->chk t s i b=none->chk t fd hk b=none
 | .mk kd tx n ks,s,fd,i,hk,b,ac,am,h=>by
  rw[chk] at h ⊢
  cases h1:wrT (.mk kd tx n ks) (s2 (.mk kd tx n ks) s) (i2 (.mk kd tx n ks) i) b with
  | some e=>rw[h1] at h;cases h
  | none=>
   rw[h1] at h;rw[anJ (akf ac) (akg am) h1];exact adH ks (akf ac) (akg am) h
def adH:∀ (ao:List Tr) {s fd i hk b:Bool},(fd=true->s=true)->(i=true->hk=true)->TS ao s i b=none->TS ao fd hk b=none
 | [],_,_,_,_,_,_,_,_=>by rw[TS]
 | t::ao,s,fd,i,hk,b,ac,am,h=>by
  rw[TS] at h ⊢
  cases h1:chk t s i b with
  | some e=>rw[h1] at h;cases h
  | none=>
   rw[h1] at h;rw[anK t ac am h1];exact adH ao ac am h
end
