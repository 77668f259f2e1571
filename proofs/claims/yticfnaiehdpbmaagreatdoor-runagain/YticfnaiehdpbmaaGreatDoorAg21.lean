import Derived.Test.YticfnaiehdpbmaaGreatDoorAg11
import Derived.Test.YticfnaiehdpbmaaGreatDoorAg19
import Derived.Test.YticfnaiehdpbmaaGreatDoorAg13
import Derived.Test.YticfnaiehdpbmaaGreatDoorAg15
import Derived.Test.YticfnaiehdpbmaaGreatDoorAg16
import Derived.Test.YticfnaiehdpbmaaGreatDoorAg18
set_option maxRecDepth 100000
set_option maxHeartbeats 8000000
set_option linter.unusedVariables false
namespace Go.Proofs.YticfnaiehdpbmaaGreatDoor
open Go.RowKit Go.Proofs.Tryz
theorem O4 {α β:Type}{r:PR α}{f:α->Nat->PR β}{y:β}{j:Nat}(h:r.bind f=.ok y j):∃ x i,r=.ok x i/\f x i=.ok y j:=by
 cases r with
 | ok x i=>exact⟨x,i,rfl,h⟩
 | bad er p=>cases h
 | out=>cases h
theorem afT {s:NR}:PD s≠15:=by
 unfold PD PZ
 cases aG:hds.find? (fun e=>decide (s=e.1)) with
 | none=>decide
 | some e=>
  have aV:=List.mem_of_find?_eq_some aG;simp only[hds,List.mem_cons,List.not_mem_nil,or_false] at aV
  rcases aV with rfl|rfl|rfl|rfl|rfl|rfl|rfl|rfl <;> decide
theorem agk {l:List Tk}{F:Rq}{kd:Int}{s:NR}{d i j:Nat}{t:Tr}(h:QO l F kd s d i=.ok t j):t.kd=kd:=by
 unfold QO at h;obtain⟨_,_,_,h⟩:=O4 h;obtain⟨_,_,_,h⟩:=O4 h
 cases h;rfl
theorem arz {l:List Tk}{F:Rq}{d q i j:Nat}{t:Tr}(h:Yr l F d q i=.ok t j):t.kd≠15:=by
 unfold Yr at h
 split at h
 ·unfold Zz at h;obtain⟨_,_,_,h⟩:=O4 h
  split at h
  ·
   cases h
  ·split at h
   ·exact avs
   ·obtain⟨_,_,_,h⟩:=O4 h
    cases h;exact afT
 ·unfold Yq at h;obtain⟨_,_,_,h⟩:=O4 h;obtain⟨_,_,_,h⟩:=O4 h;rw[agk h];decide
 ·unfold Pj at h;obtain⟨_,_,_,h⟩:=O4 h;obtain⟨_,_,_,h⟩:=O4 h;cases h
  show (6:Int)≠15
  decide
 ·obtain⟨_,_,_,h⟩:=O4 h
  cases h;decide
 ·unfold UL at h;obtain⟨_,_,_,h⟩:=O4 h;obtain⟨_,_,_,h⟩:=O4 h
  split at h
  ·obtain⟨_,_,_,h⟩:=O4 h
   cases h;exact afT
  ·
   cases h;exact afT
 ·unfold RI at h;exact avs
 ·unfold Vj at h
  split at h
  ·exact avs
  ·obtain⟨_,_,_,h⟩:=O4 h
   cases h;exact afT
 ·unfold U0 at h;obtain⟨_,_,_,h⟩:=O4 h;obtain⟨_,_,_,h⟩:=O4 h;obtain⟨_,_,_,h⟩:=O4 h;obtain⟨_,_,_,h⟩:=O4 h
  split at h
  ·
   cases h
  ·
   cases h
   show (12:Int)≠15
   decide
theorem ahR (l:List Tk):∀ k,FOk (fns l k):=by
 intro k
 cases k with
 | zero=>intro d i t j h;cases h
 | succ k=>
  intro d i t j h i7;have fj:Qv l (fns l k) d i=.ok t j:=h;unfold Qv at fj
  split at fj
  ·exact absurd i7 (arz fj)
  ·unfold ZA at fj;obtain⟨v,_,_,fj⟩:=O4 fj;obtain⟨_,_,_,fj⟩:=O4 fj
   cases fj
   exact⟨v,[],rfl⟩
theorem agl {c:Ctx}{F:Rq}(ak:FC c F)(hN:∃ k,FNx c.l k F):Does c 154 NV (U0 c.l F):=by
 intro w d i r ae aM h;unfold U0 at ae
 cases aV:OD c.l ZL i with
 | out=>rw[aV] at ae;exact absurd ae.symm aM
 | bad er p=>rw[aV,OE] at ae;subst ae;exact aER w d i h er p aV
 | ok x i0=>
  rw[aV,bind_ok] at ae
  cases D:Pj c.l F d i0 with
  | out=>rw[D] at ae;exact absurd ae.symm aM
  | bad er p=>rw[D,OE] at ae;subst ae;exact aEQ ak hN w d i i0 h aV er p D
  | ok b a7=>
   rw[D,bind_ok] at ae;unfold Y3 at ae
   by_cases ai:fx c.l a7=Uy
   ·rw[if_pos ai,bind_assoc] at ae
    cases O:OD c.l Qi (a7+1) with
    | out=>rw[O] at ae;exact absurd ae.symm aM
    | bad er p=>rw[O,OE] at ae;subst ae;exact aaj ak hN w d i i0 h aV b a7 D ai er p (Or.inl O)
    | ok dD i2=>
     rw[O,bind_ok,bind_assoc] at ae
     cases ax:nameP c.l i2 with
     | out=>rw[ax] at ae;exact absurd ae.symm aM
     | bad er p=>rw[ax,OE] at ae;subst ae;exact aaj ak hN w d i i0 h aV b a7 D ai er p (Or.inr ⟨i2,O,Or.inl ax⟩)
     | ok s i3=>
      rw[ax,bind_ok,bind_assoc] at ae
      cases aU:OD c.l RJ i3 with
      | out=>rw[aU] at ae;exact absurd ae.symm aM
      | bad er p=>rw[aU,OE] at ae;subst ae;exact aaj ak hN w d i i0 h aV b a7 D ai er p (Or.inr ⟨i2,O,Or.inr ⟨s,i3,ax,Or.inl aU⟩⟩)
      | ok iX i4=>
       rw[aU,bind_ok,bind_assoc] at ae
       cases bN:Pj c.l F d i4 with
       | out=>rw[bN] at ae;exact absurd ae.symm aM
       | bad er p=>rw[bN,OE] at ae;subst ae;exact aaj ak hN w d i i0 h aV b a7 D ai er p (Or.inr ⟨i2,O,Or.inr ⟨s,i3,ax,Or.inr ⟨i4,aU,bN⟩⟩⟩)
       | ok b2 i5=>
        rw[bN,bind_ok,bind_ok] at ae;unfold UZ at ae
        by_cases aG:fx c.l i5=QG
        ·rw[if_pos aG,bind_assoc] at ae
         cases cA:Pj c.l F d (i5+1) with
         | out=>rw[cA] at ae;exact absurd ae.symm aM
         | bad er p=>rw[cA,OE] at ae;subst ae;exact ah6 ak hN w d i i0 h aV b a7 D ai i2 O s i3 ax i4 aU b2 i5 bN aG er p cA
         | ok em pM=>
          rw[cA,bind_ok,bind_ok,if_neg Oq] at ae;subst ae;exact arx ak hN w d i i0 h aV b a7 D ai i2 O s i3 ax i4 aU b2 i5 bN aG em pM cA
        ·rw[if_neg aG,bind_ok,if_neg Oq] at ae;subst ae;exact aop ak hN w d i i0 h aV b a7 D ai i2 O s i3 ax i4 aU b2 i5 bN aG
   ·rw[if_neg ai,bind_ok] at ae;unfold UZ at ae
    by_cases aG:fx c.l a7=QG
    ·rw[if_pos aG,bind_assoc] at ae
     cases cA:Pj c.l F d (a7+1) with
     | out=>rw[cA] at ae;exact absurd ae.symm aM
     | bad er p=>rw[cA,OE] at ae;subst ae;exact ak2 ak hN w d i i0 h aV b a7 D ai aG er p cA
     | ok em pM=>
      rw[cA,bind_ok,bind_ok,if_neg Oq] at ae;subst ae;exact av6 ak hN w d i i0 h aV b a7 D ai aG em pM cA
    ·rw[if_neg aG,bind_ok,if_pos Oq] at ae;subst ae;exact arw ak hN w d i i0 h aV b a7 D ai aG
theorem aC6:UE 147:=fun _ _=>by kernel_rfl
theorem aC7:UE 148:=fun _ _=>by kernel_rfl
theorem aC8:UE 149:=fun _ _=>by kernel_rfl
theorem aC9:UE 150:=fun _ _=>by kernel_rfl
theorem aDa:UE 151:=fun _ _=>by kernel_rfl
theorem aDb:UE 152:=fun _ _=>by kernel_rfl
theorem aDc:UE 153:=fun _ _=>by kernel_rfl
theorem aDd:UE 154:=fun _ _=>by kernel_rfl
theorem aDe {s:NR}{q:Nat}(h:PZ SH s=some q):q<8:=by
 unfold PZ at h
 cases aG:SH.find? (fun e=>decide (s=e.1)) with
 | none=>rw[aG] at h;cases h
 | some e=>
  rw[aG] at h;have aV:=List.mem_of_find?_eq_some aG;simp only[Option.map_some,Option.some.injEq] at h;subst h;simp only[SH,List.mem_cons,List.not_mem_nil,or_false] at aV
  rcases aV with rfl|rfl|rfl|rfl|rfl|rfl|rfl|rfl|rfl|rfl|rfl|rfl <;> decide
theorem aDf {c:Ctx}{w:Ny}{d:Nat}{r:PR Tr}{e:Ending}{w':Ny}(h:Pm c w d (EV w.heap.size) r e w'):Pm c w d (NV w.heap.size) r e w':=by
 cases r with
 | ok x j=>
  obtain⟨⟨v,h1,O⟩,ax,aU⟩:=h;exact⟨⟨v,h1,O.nv⟩,ax,aU⟩
 | bad er p=>exact h
 | out=>exact h
theorem ab6 {c:Ctx}{F:Rq}(ak:FC c F)(hN:∃ k,FNx c.l k F)(A:FOk F):Does c 160 NV (Qv c.l F):=by
 intro w d i r ae aM h;unfold Qv at ae
 cases ag:PZ SH (fx c.l i) with
 | none=>rw[ag] at ae;exact aro ak w d i r ae aM ag h
 | some q=>
  rw[ag] at ae;have aQ:=aDe ag;have xI:(Ox c.l i).kd≠6:=fun cA=>by
   have:fx c.l i=NC:=by unfold fx;rw[cA];rfl
   have h0:PZ SH NC=none:=by decide
   rw[this,h0] at ag;cases ag
  have hI:q=0\/q=1\/q=2\/q=3\/q=4\/q=5\/q=6\/q=7:=Nw
  rcases hI with rfl|rfl|rfl|rfl|rfl|rfl|rfl|rfl
  ·exact Vq 147 aC6 w d i r aM 0 ag rfl (fun W a6=>aoo ak W d i r xI ae aM a6) h
  ·exact Vq 148 aC7 w d i r aM 1 ag rfl (fun W a6=>aol ak hN A W d i r ae aM a6) h
  ·exact Vq 149 aC8 w d i r aM 2 ag rfl (fun W a6=>(Qc ak hN W d i r ae aM a6).mono fun e w' al=>aDf al) h
  ·exact Vq 150 aC9 w d i r aM 3 ag rfl (fun W a6=>empty_any W d i r ae aM a6) h
  ·exact Vq 151 aDa w d i r aM 4 ag rfl (fun W a6=>ah4 ak W d i r xI ae aM a6) h
  ·exact Vq 152 aDb w d i r aM 5 ag rfl (fun W a6=>(Yd ak W d i r xI ae aM a6).mono fun e w' al=>aDf al) h
  ·exact Vq 153 aDc w d i r aM 6 ag rfl (fun W a6=>ah5 ak W d i r xI ae aM a6) h
  ·exact Vq 154 aDd w d i r aM 7 ag rfl (fun W a6=>agl ak hN W d i r ae aM a6) h
theorem an2 (c:Ctx)(aI:Ends c.l):∀ k,FC c (fns c.l k):=by
 intro k
 induction k with
 | zero=>exact⟨fun _ _ _ r ae aM _=>absurd ae.symm aM,fun _ _ _ r ae aM _=>absurd ae.symm aM,fun _ _ _ _ _ _ r ae aM _=>absurd ae.symm aM,fun _ _ _ r ae aM _=>absurd ae.symm aM⟩
 | succ k bR=>
  have hN:∃ q,FNx c.l q (fns c.l k):=⟨k,agV aI k⟩;exact⟨ab6 bR hN (ahR c.l k),akZ bR,fun b _ _ w d i r ae aM h=>aom bR hN b w d i r ae aM h,ah3 bR (ak1 bR hN (ahR c.l k))⟩
theorem anZ (B:Nat)(t:Tr)(p:Nat)(w:Ny)(h:O7 (From B) w t p)(ai:t.count<=90000) :
  NK 35 #[Nu p] w fun e w'=>e=NU (Nr (t.count:Int))/\NJ w w':=by
 have im:=V9;have aA:O7 (fun x=>x≠w.heap.size) (w.alloc (.cells #[Nr 0] 3)) t p:=
  O7.later (I:=fun x=>x≠w.heap.size) (fun b _ hl=>Below.heap_alloc w _ b hl) _ _ (O7.mono (fun b _ hl=>by omega) _ _ h)
 have mZ:Cnt w.heap.size 0 (w.alloc (.cells #[Nr 0] 3)):=⟨NG _ _⟩;have ah:=(walk_any w.heap.size t.count t OH p 0 _ aA mZ Nw);clear h ai;go_enter func35,ntmps35;go_wp2_with fail;refine cm ah ?_;rintro e w1 ⟨rfl,f7,ha1⟩;have c0:w1.cell? (Nv w.heap.size 0)=some (Nr (((0+t.count:Nat)):Int)):=by rw[cell_of f7.blk];rfl
 rw[Nat.zero_add] at c0;have bM:NJ w w1:=(P8.alloc OH (.cells #[Nr 0] 3)).trans ((ha1.mono Oq).below OH);go_wp2_with fail;go_ret;exact⟨rfl,bM⟩
inductive PaR where
 | ok (t:Tr)
 | at (er:Int) (p:Nat)
 | bare
abbrev KK:Nat:=24100
def QK (bf bH:List NR)(s:NR):PaR:=
 if 3000<s.size then .bare
 else match Tf bf bH s (Oo QN s 0) [] with
  | .bad er p=>.at er p
  | .ok l=>match Ui l (fns l KK) with
   | .bad er p=>.at er p
   | .ok t _=>if 1500<t.count then .bare else .ok t
   | .out=>.bare
def Zl (r:PaR)(w:Ny)(e:Ending)(w':Ny):Prop:=
 match r with
 | .ok t=>∃ p,e=NU (.tuple #[Nu p,.nilIface])/\O7 (From w.heap.size) w' t p/\NJ w w'
 | .at er pl=>∃ b,e=NU (.tuple #[.pointer none,.iface 150 (NM b 0)])/\w'.heap[b]? = some (Og #[Nr er,Nr (pl:Int)] 152)/\w.heap.size<=b/\NJ w w'
 | .bare=>e=NU (.tuple #[.pointer none,.iface 34 (Nr 4)])/\NJ w w'
theorem an0 {bf bH:List NR}{s:NR}{k:Nat}{kd n:Int}{tx:NR}{e:Nat}(h:UR bf bH s k=.tok kd tx n e):kd≠6:=by
 unfold UR at h
 split at h
 ·unfold Ti at h
  split at h
  ·
   cases h;decide
  ·split at h
   ·
    cases h
   ·
    cases h;decide
 ·split at h
  ·unfold rdNum at h
   split at h
   ·
    cases h
   ·split at h
    ·
     cases h
    ·split at h
     ·
      cases h
     ·
      cases h;decide
  ·split at h
   ·unfold rdStr at h
    split at h
    ·split at h
     ·
      cases h
     ·
      cases h;decide
    ·
     cases h
   ·unfold Uu at h
    split at h
    ·
     cases h;decide
    ·
     cases h
theorem akS (bf bH:List NR)(s:NR)(lN:∀ g ∈ bH,1<=g.size):∀ m i be l,s.size - i=m->i<=s.size->Tf bf bH s i be=.ok l ->
  ∃ jQ,l=be++jQ++[⟨6,⟨#[]⟩,0,s.size⟩]/\(∀ t ∈ jQ,t.kd≠6)/\jQ.length<=s.size - i:=by
 intro m
 induction m using Nat.strongRecOn with
 | ind m bR=>
  intro i be l aV ay h
  by_cases aQ:i<s.size
  ·
   cases U:UR bf bH s i with
   | bad er p=>rw[YX bf bH s i be er p aQ U] at h;cases h
   | tok kd tx n e=>
    have z:=kk (∀{G}(h:G:=by
    obtain⟨jQ,h1,O,ax⟩:=bR (s.size - Oo QN s e) Nw (Oo QN s e) _ l rfl h5 h;refine⟨⟨kd,tx,n,i⟩::jQ,by rw[h1];simp,fun t a'=>?_,by simp;omega⟩
    rcases List.mem_cons.1 a' with rfl|a'
    ·exact an0 U
    ·exact O t a'),G);exact awX
  ·rw[Xu bf bH s i be aQ] at h;exact⟨[],by cases h;simp,fun t a'=>absurd a' Oq,by simp⟩
theorem akT {bf bH:List NR}{s:NR}(lN:∀ g ∈ bH,1<=g.size){l:List Tk}(h:Tf bf bH s (Oo QN s 0) []=.ok l):Ends l/\0<l.length/\l.length<=s.size+1:=by
 obtain⟨jQ,h1,O,ax⟩:=akS bf bH s lN _ (Oo QN s 0) [] l rfl (RZ QN s 0 (Nat.zero_le _)) h;rw[List.nil_append] at h1;subst h1;refine⟨fun i ay=>?_,by simp,by simp;omega⟩
 rw[List.length_append,List.length_singleton] at ay;unfold Ox;rw[List.getD_eq_getElem?_getD,List.length_append,List.length_singleton]
 by_cases rf:i<jQ.length
 ·rw[List.getElem?_append_left rf,List.getElem?_eq_getElem rf];constructor
  ·intro cA;exact absurd cA (O _ (List.getElem_mem rf))
  ·intro cA;omega
 ·have kh:i=jQ.length:=Nw;subst kh;rw[List.getElem?_append_right OH,Nat.sub_self];simp
section
variable {l:List Tk} {k:Nat} {F:Rq} (ak:FNx l k F)
include l k F ak
theorem af2 (E:8 * l.length+3<k):∀ n be i,i<l.length->l.length - i<n->Qj l F n be i≠.out:=by
 intro n
 induction n with
 | zero=>intro be i ay aA;omega
 | succ n bR=>
  intro be i ay aA;unfold Qj
  split
  ·nofun
  ·have hd:=Qk (l:=l) (d:=0) ((ak.st (0+1) i ay).imp (q':=True) (fun _=>by omega))
   cases U:OL l F.st 0 i with
   | out=>exact absurd U (hd.1 trivial)
   | bad er p=>rw[PR.bind];nofun
   | ok t j=>
    have:=hd.2 t j U;exact bR _ j this.2 Nw
theorem af4:∀ n be i am j,i<l.length->Qj l F n be i=.ok am j->j<l.length:=by
 intro n
 induction n with
 | zero=>intro be i am j _ h;cases h
 | succ n bR=>
  intro be i am j ay h;unfold Qj at h
  split at h
  ·
   cases h;exact ay
  ·obtain⟨t,bW,h1,h⟩:=O4 h;exact bR _ bW _ _ ((Qk (l:=l) (d:=0) (ak.st (0+1) i ay)).2 t bW h1).2 h
end
theorem abu {l:List Tk}(aI:Ends l)(h0:0<l.length)(hl:l.length<=3001):Ui l (fns l KK)≠.out/\∀ t j,Ui l (fns l KK)=.ok t j->j<l.length:=by
 have ak:=agV aI KK;have h1:=af2 ak (by unfold KK;omega) (fns l KK).fuel [] 0 h0 (by rw[ak.fuel];unfold KK;omega)
 unfold Ui;constructor
 ·
  cases U:Qj l (fns l KK) (fns l KK).fuel [] 0 with
  | out=>exact absurd U h1
  | bad er p=>nofun
  | ok am j=>nofun
 ·intro t j h;obtain⟨am,bW,O,h⟩:=O4 h;cases h;exact af4 ak _ _ _ _ _ h0 O
structure Tabs (w:Ny):Prop where
 heads:∃ t fr,w.heap[4]? = some (.cells UD t fr)
 signs:∃ t fr,w.heap[3]? = some (.cells Vo t fr)
theorem Tabs.later {w w':Ny}(h:Tabs w)(D:NJ w w'):Tabs w':=by
 obtain⟨⟨t,fr,h1⟩,⟨t2,vo,O⟩⟩:=h;exact⟨⟨t,fr,by rw[D.block _ (lt_of_heap h1)];exact h1⟩,⟨t2,vo,by rw[D.block _ (lt_of_heap O)];exact O⟩⟩
theorem an1 (w:Ny):NJ w (RW w):=OM.alloc Oq _
theorem ad4 (w:Ny)(l:List Tk)(g cap:Nat)(cl:Array NP)(aI:Ends l)(h0:0<l.length)(hl:l.length<=3001)(a':w.heap[g]? = some (Og cl 144))(hcap:l.length<=cap/\cap<=maxLen/\cl.size=cap * 4/\cl.toList.take (l.length * 4)=Qh l)(dA:Tabs w) :
  NK 34 #[.slice (some (Nv g 0)) l.length cap] w (abv (Ui l (fns l KK)) w):=by
 have D:=an1 w;have DE:=dA.later D;have dE:=ab4 (RW w) l g cap cl aI h0 hl (by rw[D.block _ (lt_of_heap a')];exact a') hcap DE.heads DE.signs
 have ak:∀ c:Ctx,c.l=l->FC c (fns c.l KK):=fun c ai=>an2 c (by rw[ai];exact aI) KK
 have al:=(abu aI h0 hl).1
 cases U:Ui l (fns l KK) with
 | out=>exact absurd U al
 | bad er pl=>
  refine an3 w l g cap er pl dE fun c W ai a8=>?_;exact aBC
 | ok t j=>
  refine aq8 w l g cap t j dE fun c W ai a8=>?_;exact aBC
section
variable (s:NR) (w:Ny)
include s w
theorem ahU (ae:3000<s.size):NK 15 #[ND s] w (Zl .bare w):=by
 have ah:=(af5 s w ae);clear ae;go_enter func15,ntmps15;go_wp2_with fail;refine cm ah ?_;rintro e w1 ⟨rfl,rfl⟩;go_wp2_with fail;exact bodyPost_ret (v:=.tuple #[Qb,.iface 34 (Nr 4)]) (by simp[results,results15,go_sem]) rfl ⟨rfl,P8⟩
theorem ahV (er:Int)(p:Nat)(h:NK 33 #[ND s] w (ai5 (.bad er p) w)):NK 15 #[ND s] w (Zl (.at er p) w):=by
 go_enter func15,ntmps15;go_wp2_with fail;refine cm h ?_;rintro e w1 ⟨b,rfl,b4,aE,bm⟩;have ut:=hide b4;have gT:=hide aE;clear b4 aE h;go_wp2_with fail;exact bodyPost_ret (v:=.tuple #[Qb,.iface 150 (NM b 0)]) (by simp[results,results15,go_sem]) rfl ⟨b,rfl,ut.out,gT.out,bm⟩
theorem akU (l:List Tk)(er:Int)(p:Nat)(h:NK 33 #[ND s] w (ai5 (.ok l) w))(h0:0<l.length)(U:∀ (W:Ny) (g cap:Nat) (cl:Array NP),NJ w W->W.heap[g]? = some (Og cl 144)->(l.length<=cap/\cap<=maxLen/\cl.size=cap * 4/\cl.toList.take (l.length * 4)=Qh l)->NK 34 #[.slice (some (Nv g 0)) l.length cap] W (abv (.bad er p) W)) :
  NK 15 #[ND s] w (Zl (.at er p) w):=by
 have dk:=hide U;clear U;go_enter func15,ntmps15;go_wp2_with fail;refine cm h ?_;rintro e w1 ⟨v,rfl,hown,b4⟩
 rcases hown.2 with aA|⟨g,cap,cl,rfl,hg,hh,h1,O,ax,aU⟩
 ·omega
 ·have hn:=(dk.out w1 g cap cl b4 hh ⟨h1,O,ax,aU⟩);have f0:=b4;clear b4 hg hh h1 O ax aU h;go_wp2_with fail;refine cm hn ?_;rintro e w2 ⟨b,rfl,b4,aE,bm⟩;have ut:=hide b4;have E8:=(f0.trans (bm.mono f0.size));have gT:=hide (Nat.le_trans f0.size aE);clear b4 aE;go_wp2_with fail;exact bodyPost_ret (v:=.tuple #[Qb,.iface 150 (NM b 0)]) (by simp[results,results15,go_sem]) rfl ⟨b,rfl,ut.out,gT.out,E8⟩
theorem an4 (l:List Tk)(t:Tr)(j:Nat)(h:NK 33 #[ND s] w (ai5 (.ok l) w))(h0:0<l.length)(ai:t.count<=90000)(U:∀ (W:Ny) (g cap:Nat) (cl:Array NP),NJ w W->W.heap[g]? = some (Og cl 144)->(l.length<=cap/\cap<=maxLen/\cl.size=cap * 4/\cl.toList.take (l.length * 4)=Qh l)->NK 34 #[.slice (some (Nv g 0)) l.length cap] W (abv (.ok t j) W)) :
  NK 15 #[ND s] w (Zl (if 1500<t.count then .bare else .ok t) w):=by
 have dk:=hide U;have fL:=hide ai;obtain⟨r,bY⟩:=xH ((if 1500<t.count then PaR.bare else .ok t));rw[<-bY.out];clear U ai;go_enter func15,ntmps15;go_wp2_with fail;refine cm h ?_;rintro e w1 ⟨v,rfl,hown,b4⟩
 rcases hown.2 with aA|⟨g,cap,cl,rfl,hg,hh,h1,O,ax,aU⟩
 ·omega
 ·have hn:=(dk.out w1 g cap cl b4 hh ⟨h1,O,ax,aU⟩);clear hg hh h1 O ax aU h;go_wp2_with fail;refine cm hn ?_;rintro e w2 ⟨p,rfl,aA,D⟩;have cf:=(b4.trans (D.mono b4.size));have eB:=(anZ w1.heap.size t p w2 aA fL.out);have iO:=hide b4.size;clear D;go_wp2_with fail;refine cm eB ?_;rintro e ao ⟨rfl,bm⟩;have ef:=(cf.trans (bm.mono cf.size));have s':O7 (From w.heap.size) ao t p:=O7.mono (fun b D _=>Nat.le_trans iO.out D) _ _ (O7.later (I:=From w1.heap.size) (fun b _ hl=>bm.block b hl) _ _ aA)
  by_cases i7:1500<t.count
  ·have ag:r=.bare:=by rw[bY.out,if_pos i7]
   have bo:=hide ag;clear ag;have ay:(1500:Int)<(t.count:Int):=Nw;clear i7;go_wp2_with fail;exact bodyPost_ret (v:=.tuple #[Qb,.iface 34 (Nr 4)]) (by simp[results,results15,go_sem]) rfl (by rw[bo.out];exact⟨rfl,ef⟩)
  ·have ag:r=.ok t:=by rw[bY.out,if_neg i7]
   have bo:=hide ag;clear ag;have ay:¬ (1500:Int)<(t.count:Int):=Nw;clear i7;go_wp2_with fail;exact bodyPost_ret (v:=.tuple #[Nu p,Pe]) (by simp[results,results15,go_sem]) rfl (by rw[bo.out];exact⟨p,rfl,s',ef⟩)
end
theorem parse_any (bf bH:List NR)(s:NR)(w:Ny)(dz:Lists bf bH w)(lN:∀ g ∈ bH,1<=g.size)(dA:Tabs w):NK 15 #[ND s] w (Zl (QK bf bH s) w):=by
 unfold QK
 by_cases ae:3000<s.size
 ·rw[if_pos ae];exact ahU s w ae
 ·rw[if_neg ae];have E:=ahW bf bH s w Nw dz lN
  cases a':Tf bf bH s (Oo QN s 0) [] with
  | bad er p=>rw[a'] at E;exact ahV s w er p E
  | ok l=>
   rw[a'] at E;obtain⟨aI,h0,hl⟩:=akT lN a';have gg:l.length<=3001:=Nw;obtain⟨oQ,bK⟩:=abu aI h0 gg;have a8:=fun(W:Ny) (g cap:Nat) (cl:Array NP) (D:NJ w W) hh hcap=>ad4 W l g cap cl aI h0 gg hh hcap (dA.later D);simp only
   cases U:Ui l (fns l KK) with
   | out=>exact absurd U oQ
   | bad er p=>rw[U] at a8;exact akU s w l er p E h0 a8
   | ok t j=>
    rw[U] at a8;have aT:=bK t j U;have tN:=apl (atq KK) U;exact an4 s w l t j E h0 Nw a8
inductive Qz (cU dg:NR->Prop) (df:Int->Prop):Nat->Tr->Prop
 | name {s} (h:cU s):Qz cU dg df 0 (.mk 23 s 0 [])
 | str {s} (h:dg s):Qz cU dg df 0 (.mk 18 s 0 [])
 | num {n} (h:df n):Qz cU dg df 0 (.mk 17 NC n [])
 | lit {kd} (E:kd=19\/kd=20\/kd=21\/kd=22):Qz cU dg df 0 (.mk kd NC 0 [])
 | alz {s t} (h:cU s) (a':Qz cU dg df 0 t):Qz cU dg df 0 (.mk 36 s 0 [t])
 | call {t am} (a':Qz cU dg df 0 t) (ae:∀ u ∈ am,Qz cU dg df 0 u) (hl:am.length<=8):Qz cU dg df 0 (.mk 35 NC 0 (t::am))
 | one {kd t} (E:kd=32\/kd=33\/kd=34) (a':Qz cU dg df 0 t):Qz cU dg df 0 (.mk kd NC 0 [t])
 | two {kd a b} (E:25<=kd/\kd<=31) (aw:Qz cU dg df 0 a) (D:Qz cU dg df 0 b):Qz cU dg df 0 (.mk kd NC 0 [a,b])
 | asg {a b} (E:a.kd=23\/a.kd=36) (aw:Qz cU dg df 0 a) (D:Qz cU dg df 0 b):Qz cU dg df 0 (.mk 24 NC 0 [a,b])
 | obj {ps} (ae:∀ u ∈ ps,Qz cU dg df 2 u) (hl:ps.length<=8):Qz cU dg df 0 (.mk 38 NC 0 ps)
 | lam {s p b} (h:s=NC\/cU s) (al:Qz cU dg df 5 p) (D:Qz cU dg df 4 b):Qz cU dg df 0 (.mk 37 s 0 [p,b])
 | prop {s v} (h:cU s) (ap:Qz cU dg df 0 v):Qz cU dg df 2 (.mk 39 s 0 [v])
 | par {s} (h:cU s):Qz cU dg df 6 (.mk 23 s 0 [])
 | ajB {ps} (ae:∀ u ∈ ps,Qz cU dg df 6 u) (hl:ps.length<=8):Qz cU dg df 5 (.mk 40 NC 0 ps)
 | blk {am} (ae:∀ u ∈ am,Qz cU dg df 1 u):Qz cU dg df 3 (.mk 6 NC 0 am)
 | body {tx am} (a':tx=NC\/tx=UF) (ae:∀ u ∈ am,Qz cU dg df 1 u):Qz cU dg df 4 (.mk 6 tx 0 am)
 | decl {kd s v} (E:kd=2\/kd=3\/kd=4) (h:cU s) (ap:∀ u ∈ v,Qz cU dg df 0 u) (hl:v.length<=1) (ai:kd=4->v.length=1):Qz cU dg df 1 (.mk kd s 0 v)
 | func {s p b} (h:cU s) (al:Qz cU dg df 5 p) (D:Qz cU dg df 4 b):Qz cU dg df 1 (.mk 5 s 0 [p,b])
 | agK {t} (h:Qz cU dg df 3 t):Qz cU dg df 1 t
 | sif {v s} (ap:Qz cU dg df 0 v) (ae:Qz cU dg df 1 s):Qz cU dg df 1 (.mk 7 NC 0 [v,s])
 | aoY {v s e} (ap:Qz cU dg df 0 v) (ae:Qz cU dg df 1 s) (au:Qz cU dg df 1 e):Qz cU dg df 1 (.mk 7 NC 0 [v,s,e])
 | loop {kd v s} (E:kd=8\/kd=9) (ap:Qz cU dg df 0 v) (ae:Qz cU dg df 1 s):Qz cU dg df 1 (.mk kd NC 0 [v,s])
 | give {kd v} (E:kd=10\/kd=11) (ap:∀ u ∈ v,Qz cU dg df 0 u) (hl:v.length<=1) (ai:kd=11->v.length=1):Qz cU dg df 1 (.mk kd NC 0 v)
 | atm {b c f} (D:Qz cU dg df 3 b) (ai:∀ u ∈ c,Qz cU dg df 7 u) (aG:∀ u ∈ f,Qz cU dg df 8 u) (hl:c.length<=1/\f.length<=1/\0<c.length+f.length):Qz cU dg df 1 (.mk 12 NC 0 (b::(c++f)))
 | cat {s b} (h:cU s) (D:Qz cU dg df 3 b):Qz cU dg df 7 (.mk 13 s 0 [b])
 | fin {b} (D:Qz cU dg df 3 b):Qz cU dg df 8 (.mk 14 NC 0 [b])
 | empty:Qz cU dg df 1 (.mk 16 NC 0 [])
 | expr {v} (ap:Qz cU dg df 0 v):Qz cU dg df 1 (.mk 15 NC 0 [v])
 | prog {tx am} (a':tx=NC\/tx=UF) (ae:∀ u ∈ am,Qz cU dg df 1 u):Qz cU dg df 9 (.mk 1 tx 0 am)
theorem agw (kd:Int)(n:Int)(am:List Tr):∃ tx,(tx=NC\/tx=UF)/\TL (.mk kd NC n am)=.mk kd tx n am:=by
 unfold TL
 split
 ·rename_i h;cases h;split
  ·exact⟨_,Or.inr rfl,rfl⟩
  ·exact⟨_,Or.inl rfl,rfl⟩
 ·exact⟨_,Or.inl rfl,rfl⟩
theorem Qz.awe {cU dg:NR->Prop}{df:Int->Prop}{t:Tr}(h:Qz cU dg df 3 t):Qz cU dg df 4 (TL t):=by
 cases h with
 | blk ae=>obtain⟨tx,h1,O⟩:=agw 6 0 _;rw[O];exact .body h1 ae
theorem Wi {k:Int}{x:NR}{s:Sg}(h:YR k x=some s):s ∈ sgs/\s.parts=k:=by
 unfold YR at h;have h1:=Option.filter_eq_some_iff.1 h;exact⟨List.mem_of_find?_eq_some h1.1,by simpa using h1.2⟩
def abG (q:Nat)(k:Int):Bool:=match q with
 | 0=>k==2||k==3||k==4
 | 4=>k==7
 | 5=>k==8||k==9
 | 6=>k==10||k==11
 | _=>true
section
variable {l:List Tk}
def NmL (l:List Tk)(s:NR):Prop:=∃ i,(Ox l i).kd=1/\(Ox l i).tx=s
def TxL (l:List Tk)(s:NR):Prop:=∃ i,(Ox l i).tx=s
def NnL (l:List Tk)(n:Int):Prop:=∃ i,(Ox l i).n=n
theorem Vr {i j:Nat}{s:NR}(h:nameP l i=.ok s j):NmL l s:=by
 unfold nameP at h
 split at h
 ·rename_i h1;cases h;exact⟨i,h1,rfl⟩
 ·
  cases h
theorem awf {q i:Nat}(h:PZ SH (fx l i)=some q):abG q (PD (Ox l i).tx)=true:=by
 unfold PZ at h
 cases aG:SH.find? (fun e=>decide (fx l i=e.1)) with
 | none=>rw[aG] at h;cases h
 | some e=>
  rw[aG] at h;have h1:=List.mem_of_find?_eq_some aG;have O:fx l i=e.1:=by simpa using List.find?_some aG
  have ax:∀ e ∈ SH,abG e.2 (PD e.1)=true/\e.1≠NC:=by decide +kernel
  have aU:(Ox l i).tx=e.1:=by
   unfold fx at O
   split at O
   ·exact O
   ·exact absurd O.symm (ax e h1).2
  cases h;rw[aU];exact(ax e h1).1
abbrev Kh (l:List Tk)(c:Nat)(r:PR Tr):Prop:=∀ t j,r=.ok t j->Qz (NmL l) (TxL l) (NnL l) c t
theorem SG {c:Nat}{f:Nat->Nat->PR Tr}{d i:Nat}(h:Kh l c (f (d+1) i)):Kh l c (OL l f d i):=by
 unfold OL
 split
 ·intro t j e;cases e
 ·exact h
theorem ai4 {P:Tr->Prop}{be:List Tr}{u:Tr}(aw:∀ x ∈ be,P x)(aO:P u):∀ x ∈ be++[u],P x:=by
 intro x ac
 rcases List.mem_append.1 ac with h|h
 ·exact aw x h
 ·rw[List.mem_singleton.1 h];exact aO
theorem agz {c:Nat}{shut:NR}{begins:Nat->Bool}{part:Nat->PR Tr}(D:∀ i t j,part i=.ok t j->begins i=true)(al:∀ i,Kh l c (part i)):∀ k be i t j,(∀ x ∈ be,Qz (NmL l) (TxL l) (NnL l) c x)->be.length<=8->Ry l shut begins part k be i=.ok t j->(∀ x ∈ t,Qz (NmL l) (TxL l) (NnL l) c x)/\t.length<=8:=by
 intro k
 induction k with
 | zero=>intro be i t j _ _ h;cases h
 | succ k bR=>
  intro be i t j aw hl h;unfold Ry at h
  split at h
  ·
   cases h
  ·rename_i aA
   obtain⟨u,a7,h1,h⟩:=binds h;have aO:=ai4 aw (al i u a7 h1);have gg:(be++[u]).length<=8:=by
    have:be.length≠8:=fun e=>aA ⟨e,D _ _ _ h1⟩;simp;omega
   split at h
   ·
    cases h;exact⟨aO,gg⟩
   ·obtain⟨_,i2,O,h⟩:=binds h;exact bR _ _ _ _ aO gg h
theorem aej {c:Nat}{opn shut:NR}{begins:Nat->Bool}{part:Nat->PR Tr}(D:∀ i t j,part i=.ok t j->begins i=true)(al:∀ i,Kh l c (part i)){k i j:Nat}{t:List Tr}(h:Vh l opn shut begins part k i=.ok t j):(∀ x ∈ t,Qz (NmL l) (TxL l) (NnL l) c x)/\t.length<=8:=by
 unfold Vh at h;obtain⟨_,a7,h1,h⟩:=binds h
 split at h
 ·
  cases h;exact⟨fun _ h=>(by cases h),by simp⟩
 ·exact agz D al _ _ _ _ _ (fun _ h=>by cases h) Oq h
theorem ZI {i j:Nat}{s:NR}(h:nameP l i=.ok s j):isName l i=true:=by
 unfold nameP at h
 split at h
 ·rename_i h1;unfold isName;rw[h1];rfl
 ·
  cases h
structure FKh (l:List Tk)(F:Rq):Prop where
 st:∀ d i,Kh l 1 (F.st d i)
 vl:∀ d i,Kh l 0 (F.vl d i)
 pr:∀ b d i,Kh l 0 (F.pr b d i)
 sg:∀ d i,Kh l 0 (F.sg d i)
 bg:∀ d i t j,F.vl d i=.ok t j->isVal l i=true
 bp:∀ b d i t j,F.pr b d i=.ok t j->isVal l i=true
 bs:∀ d i t j,F.sg d i=.ok t j->isVal l i=true
variable {F:Rq} (ak:FKh l F)
include ak
theorem aek {d:Nat}:∀ k be i t j,(∀ x ∈ be,Qz (NmL l) (TxL l) (NnL l) 1 x)->PV l F d k be i=.ok t j->∀ x ∈ t,Qz (NmL l) (TxL l) (NnL l) 1 x:=by
 intro k
 induction k with
 | zero=>intro be i t j _ h;cases h
 | succ k bR=>
  intro be i t j aw h;unfold PV at h;exact aBE
theorem Xq {d i:Nat}:Kh l 3 (Pj l F d i):=by
 intro t j h;unfold Pj at h;obtain⟨_,a7,h1,h⟩:=binds h;obtain⟨am,i2,O,h⟩:=binds h;cases h;exact .blk (aek ak _ _ _ _ _ (fun _ h=>by cases h) O)
omit ak in
theorem ak7 {i:Nat}:Kh l 5 (Rh l F i):=by
 intro t j h;unfold Rh at h;obtain⟨am,a7,h1,h⟩:=binds h;cases h;have:=aej (c:=6) (fun i t j h=>by unfold TS at h;obtain⟨_,_,h1,_⟩:=binds h;exact ZI h1) (fun i t j h=>by unfold TS at h;obtain⟨_,_,h1,h⟩:=binds h;cases h;exact .par (Vr h1)) h1
 exact .ajB this.1 this.2
theorem abH (d i:Nat):Kh l 0 (Tj l F d i):=by
 intro t j h;unfold Tj at h;obtain⟨_,a7,h1,h⟩:=binds h;obtain⟨u,i2,O,h⟩:=binds h;obtain⟨_,i3,ax,h⟩:=binds h;cases h;exact SG (ak.vl _ _) _ _ O
theorem ak8 (d i:Nat):Kh l 0 (UJ l F d i):=by
 intro t j h;unfold UJ at h;obtain⟨am,a7,h1,h⟩:=binds h;cases h;have:=aej (c:=2) (fun i t j h=>by unfold VA at h;obtain⟨_,_,h1,_⟩:=binds h;exact ZI h1) (fun i t j h=>by
  unfold VA at h;obtain⟨_,_,h1,h⟩:=binds h;obtain⟨_,_,_,h⟩:=binds h;obtain⟨_,_,ax,h⟩:=binds h;cases h;exact .prop (Vr h1) (SG (ak.vl _ _) _ _ ax)) h1
 exact .obj this.1 this.2
theorem ael {kd:Int}{s:NR}{d i j:Nat}{t:Tr}(h:QO l F kd s d i=.ok t j):∃ p b,t=.mk kd s 0 [p,b]/\Qz (NmL l) (TxL l) (NnL l) 5 p/\Qz (NmL l) (TxL l) (NnL l) 4 b:=by
 unfold QO at h;obtain⟨ps,a7,h1,h⟩:=binds h;obtain⟨b,i2,O,h⟩:=binds h;cases h;exact⟨_,_,rfl,ak7 _ _ h1,(Xq ak _ _ O).awe⟩
theorem ak9 (d i:Nat):Kh l 0 (UK l F d i):=by
 intro t j h;unfold UK at h;obtain⟨_,a7,h1,h⟩:=binds h
 split at h
 ·obtain⟨s,i2,O,h⟩:=binds h;obtain⟨p,b,rfl,al,D⟩:=ael ak h;exact .lam (Or.inr (Vr O)) al D
 ·obtain⟨p,b,rfl,al,D⟩:=ael ak h;exact .lam (Or.inl rfl) al D
theorem aot (d i:Nat):Kh l 0 (Uz l F d i):=by
 unfold Uz
 split
 ·exact abH ak d i
 ·exact ak8 ak d i
 ·exact ak9 ak d i
 ·split
  ·rename_i e6;intro t j h;cases h
   have O:∀ s ∈ sgs,s.parts=0->s.kd=19\/s.kd=20\/s.kd=21\/s.kd=22:=by decide +kernel
   exact .lit (O _ (Wi e6).1 (Wi e6).2)
  ·split
   ·rename_i h1;intro t j h;cases h;exact .name ⟨i,h1,rfl⟩
   ·split
    ·intro t j h;cases h;exact .str ⟨i,rfl⟩
    ·split
     ·intro t j h;cases h;exact .num ⟨i,rfl⟩
     ·intro t j h;cases h
omit ak in
theorem aou {d i j:Nat}{t:Tr}(h:Uz l F d i=.ok t j):isVal l i=true:=by
 unfold isVal;unfold Uz at h
 cases E:PZ Rf (fx l i) with
 | some q=>simp
 | none=>
  rw[E] at h;simp only at h
  cases ae:YR 0 (fx l i) with
  | some s=>
   have z:=kk (∀{G}(h:G:=by
   rw[ax];simp),G);exact aCm
  | none=>
   rw[ae] at h;simp only at h
   split at h
   ·rename_i h1;simp[h1]
   ·split at h
    ·rename_i h1;simp[h1]
    ·split at h
     ·rename_i h1;simp[h1]
     ·
      cases h
theorem aem {d:Nat}:∀ k u i t j,Qz (NmL l) (TxL l) (NnL l) 0 u->QS l F d k u i=.ok t j->Qz (NmL l) (TxL l) (NnL l) 0 t:=by
 intro k
 induction k with
 | zero=>intro u i t j _ h;cases h
 | succ k bR=>
  intro u i t j aO h;unfold QS at h
  split at h
  ·obtain⟨s,a7,h1,h⟩:=binds h;exact bR _ _ _ _ (.alz (Vr h1) aO) h
  ·split at h
   ·obtain⟨am,a7,h1,h⟩:=binds h;have:=aej (c:=0) (fun i t j h=>by
     unfold OL at h
     split at h
     ·
      cases h
     ·exact ak.bg _ _ _ _ h) (fun i=>SG (ak.vl _ _)) h1
    exact bR _ _ _ _ (.call aO this.1 this.2) h
   ·
    cases h;exact aO
theorem ala (d i:Nat):Kh l 0 (Tn l F d i):=by
 unfold Tn
 split
 ·rename_i e6
  intro t j h;obtain⟨u,a7,h1,h⟩:=binds h;cases h;have O:∀ s ∈ sgs,s.parts=1->s.kd=32\/s.kd=33\/s.kd=34:=by decide +kernel
  exact .one (O _ (Wi e6).1 (Wi e6).2) (SG (ak.sg _ _) u _ h1)
 ·intro t j h;unfold TT at h;obtain⟨u,a7,h1,h⟩:=binds h;exact aem ak _ _ _ _ _ (aot ak d i u a7 h1) h
omit ak in
theorem alb (d i:Nat)(t:Tr)(j:Nat)(h:Tn l F d i=.ok t j):isVal l i=true:=by
 unfold Tn at h
 cases ae:YR 1 (fx l i) with
 | some s=>
  have z:=kk (∀{G}(h:G:=by
  unfold isVal;rw[ax];simp),G);exact aCm
 | none=>
  rw[ae] at h;simp only at h;unfold TT at h;obtain⟨u,a7,h1,_⟩:=binds h;exact aou h1
theorem agA {b:Int}{d:Nat}:∀ k u i t j,Qz (NmL l) (TxL l) (NnL l) 0 u->Si l F b d k u i=.ok t j->Qz (NmL l) (TxL l) (NnL l) 0 t:=by
 intro k
 induction k with
 | zero=>intro u i t j _ h;cases h
 | succ k bR=>
  intro u i t j aO h;unfold Si at h
  split at h
  ·
   cases h;exact aO
  ·rename_i e6
   split at h
   ·
    cases h;exact aO
   ·obtain⟨v,a7,h1,h⟩:=binds h;have O:∀ s ∈ sgs,s.parts=2->25<=s.kd/\s.kd<=31:=by decide +kernel
    exact bR _ _ _ _ (.two (O _ (Wi e6).1 (Wi e6).2) aO (ak.pr _ _ _ v a7 h1)) h
theorem arB (b:Int)(d i:Nat):Kh l 0 (WT l F b d i):=by
 intro t j h;unfold WT at h;obtain⟨u,a7,h1,h⟩:=binds h;exact agA ak _ _ _ _ _ (ak.sg _ _ u a7 h1) h
theorem aov (d i:Nat):Kh l 0 (UY l F d i):=by
 intro t j h;unfold UY at h;obtain⟨u,a7,h1,h⟩:=binds h;have av:=ak.pr _ _ _ u a7 h1
 split at h
 ·split at h
  ·rename_i E
   obtain⟨v,i2,O,h⟩:=binds h;cases h;exact .asg E av (SG (ak.vl _ _) v _ O)
  ·
   cases h
 ·
  cases h;exact av
theorem arC (d q i:Nat)(ag:abG q (PD (Ox l i).tx)=true):Kh l 1 (Yr l F d q i):=by
 intro t j h;unfold Yr at h
 split at h
 ·have E:PD (Ox l i).tx=2\/PD (Ox l i).tx=3\/PD (Ox l i).tx=4:=by simpa[abG,or_assoc] using ag
  unfold Zz at h;obtain⟨s,a7,h1,h⟩:=binds h
  split at h
  ·
   cases h
  ·rename_i aA
   split at h
   ·obtain⟨v,i2,O,h⟩:=binds h;obtain⟨_,i3,ax,h⟩:=binds h;cases h;have bC:=SG (ak.vl _ _) v _ O;exact .decl E (Vr h1) (fun u aO=>by rw[List.mem_singleton.1 aO];exact bC) Oq Oq
   ·rename_i ac
    obtain⟨_,i3,ax,h⟩:=binds h;cases h;exact .decl E (Vr h1) (fun u aO=>by cases aO) Oq (fun e=>absurd ⟨e,ac⟩ aA)
 ·unfold Yq at h;obtain⟨_,a7,h1,h⟩:=binds h;obtain⟨s,i2,O,h⟩:=binds h;obtain⟨p,b,rfl,al,D⟩:=ael ak h;exact .func (Vr O) al D
 ·exact .agK (Xq ak _ _ h)
 ·obtain⟨_,i3,ax,h⟩:=binds h;cases h;exact .empty
 ·have E:PD (Ox l i).tx=7:=by simpa[abG] using ag
  unfold UL at h;rw[E] at h;obtain⟨v,a7,h1,h⟩:=binds h;obtain⟨s,i2,O,h⟩:=binds h;have av:=abH ak d _ v a7 h1;have bC:=SG (ak.st _ _) s _ O
  split at h
  ·obtain⟨s2,i3,ax,h⟩:=binds h;cases h;exact .aoY av bC (SG (ak.st _ _) s2 _ ax)
  ·
   cases h;exact .sif av bC
 ·have E:PD (Ox l i).tx=8\/PD (Ox l i).tx=9:=by simpa[abG] using ag
  unfold RI at h;obtain⟨v,a7,h1,h⟩:=binds h;obtain⟨s,i2,O,h⟩:=binds h;cases h;exact .loop E (abH ak d _ v a7 h1) (SG (ak.st _ _) s _ O)
 ·have E:PD (Ox l i).tx=10\/PD (Ox l i).tx=11:=by simpa[abG] using ag
  unfold Vj at h
  split at h
  ·obtain⟨v,a7,h1,h⟩:=binds h;obtain⟨_,i2,O,h⟩:=binds h;cases h;have av:=SG (ak.vl _ _) v _ h1;exact .give E (fun u aO=>by rw[List.mem_singleton.1 aO];exact av) Oq Oq
  ·rename_i aA
   obtain⟨_,i2,O,h⟩:=binds h;cases h;exact .give E (fun u aO=>by cases aO) Oq (fun e=>absurd (Or.inl e) aA)
 ·have z:=kk (∀{G}(h:G:=by
  have bC:(∀ u ∈ c,Qz (NmL l) (TxL l) (NnL l) 7 u)/\c.length<=1:=by
   unfold Y3 at O
   split at O
   ·obtain⟨_,bV,b0,O⟩:=binds O;obtain⟨_,dB,d4,O⟩:=binds O;obtain⟨_,ir,d1,O⟩:=binds O;obtain⟨j0,k4,mQ,O⟩:=binds O;cases O;exact⟨fun u aO=>by rw[List.mem_singleton.1 aO];exact .cat (Vr d4) (Xq ak _ _ mQ),by simp⟩
   ·
    cases O;exact⟨fun u aO=>(by cases aO),by simp⟩
  have ey:(∀ u ∈ f,Qz (NmL l) (TxL l) (NnL l) 8 u)/\f.length<=1:=by
   unfold UZ at ax
   split at ax
   ·obtain⟨j0,k4,mQ,ax⟩:=binds ax;cases ax;exact⟨fun u aO=>by rw[List.mem_singleton.1 aO];exact .fin (Xq ak _ _ mQ),by simp⟩
   ·
    cases ax;exact⟨fun u aO=>(by cases aO),by simp⟩
  split at h
  ·
   cases h
  ·rename_i aA
   cases h;exact .atm (Xq ak _ _ h1) bC.1 ey.1 ⟨bC.2,ey.2,by omega⟩),G);exact axA
theorem aen (d i:Nat):Kh l 1 (Qv l F d i):=by
 unfold Qv
 split
 ·rename_i ag;exact arC ak d _ i (awf ag)
 ·intro t j h;unfold ZA at h;obtain⟨v,a7,h1,h⟩:=binds h;obtain⟨_,i2,O,h⟩:=binds h;cases h;exact .expr (SG (ak.vl _ _) v _ h1)
omit ak in
theorem awg:∀ k,FKh l (fns l k):=by
 intro k
 induction k with
 | zero=>exact⟨fun _ _ _ _ h=>by (cases h),fun _ _ _ _ h=>by (cases h),fun _ _ _ _ _ h=>by (cases h),fun _ _ _ _ h=>by (cases h),fun _ _ _ _ h=>by (cases h),fun _ _ _ _ _ h=>by (cases h),fun _ _ _ _ h=>by (cases h)⟩
 | succ k bR=>exact⟨aen bR,aov bR,arB bR,ala bR,fun d i t j h=>by
   change UY l (fns l k) d i=_ at h;unfold UY at h;obtain⟨u,a7,h1,_⟩:=binds h;exact bR.bp _ _ _ _ _ h1,fun b d i t j h=>by
   change WT l (fns l k) b d i=_ at h;unfold WT at h;obtain⟨u,a7,h1,_⟩:=binds h;exact bR.bs _ _ _ _ h1,alb⟩
theorem agB:∀ k be i t j,(∀ x ∈ be,Qz (NmL l) (TxL l) (NnL l) 1 x)->Qj l F k be i=.ok t j->∀ x ∈ t,Qz (NmL l) (TxL l) (NnL l) 1 x:=by
 intro k
 induction k with
 | zero=>intro be i t j _ h;cases h
 | succ k bR=>
  intro be i t j aw h;unfold Qj at h;exact aBE
theorem arD:Kh l 9 (Ui l F):=by
 intro t j h;unfold Ui at h;obtain⟨am,a7,h1,h⟩:=binds h;cases h;obtain⟨tx,O,ax⟩:=agw 1 0 am;rw[ax];exact .prog O (agB ak _ _ _ _ _ (fun _ h=>by cases h) h1)
end
theorem aeI {bf signs:List NR}{s:NR}{t:Tr}(h:QK bf signs s=.ok t):∃ l,Tf bf signs s (Oo QN s 0) []=.ok l/\Qz (NmL l) (TxL l) (NnL l) 9 t:=by
 unfold QK at h
 split at h
 ·
  cases h
 ·split at h
  ·
   cases h
  ·rename_i l hl
   refine⟨l,hl,?_⟩
   cases al:Ui l (fns l KK) with
   | out=>rw[al] at h;cases h
   | bad er p=>rw[al] at h;cases h
   | ok t2 j=>
    rw[al] at h;simp only at h
    split at h
    ·
     cases h
    ·
     cases h;exact arD (awg _) _ _ al
end Go.Proofs.YticfnaiehdpbmaaGreatDoor
