/-
  Calls and properties behind a value.
-/
import Derived.Test.YtoimgcjbcbhclaaGreatDoorWt21
set_option maxRecDepth 100000
set_option maxHeartbeats 16000000
namespace Go.Proofs.YtoimgcjbcbhclaaGreatDoor
open Go.RowKit
theorem push0 {c:Ctx}{w w1:World}{j d:Nat}{t:Tr}{p:Nat}{u:Value}{ps:List Nat}(hO:Open w.heap.size w1 t p u ps)(hR:Rdr c w1 j d)(hA:Ap c.R w.heap.size w w1)(hlo:c.lo≤w.heap.size) :
  EV w.heap.size (w1.setCell ⟨p,3,none⟩ u) (.mk t.kd t.tx t.n (t.kids++[])) (nPtr p)∧Rdr c (w1.setCell ⟨p,3,none⟩ u) j d∧Ap c.R w.heap.size w (w1.setCell ⟨p,3,none⟩ u):=by
 have hset:∀ b,b≠p→(w1.setCell ⟨p,3,none⟩ u).heap[b]? = w1.heap[b]?:=fun b hb=>Below.heap_setCell w1 ⟨p,3,none⟩ _ b hb
 have hB:Below w.heap.size w1 (w1.setCell ⟨p,3,none⟩ u):=(Below.refl _ _).setCell (p:=⟨p,3,none⟩) hO.low _
 refine⟨?_,hR.ap hB hlo,hA.trans (Ap.of hB)⟩
 rw[List.append_nil]
 refine⟨p,u,ps,rfl,hO.low,by rw[heap_set hO.blk];rfl,?_,hO.own,NAts.later (fun b hb _=>hset b hb.2.1) _ _ hO.kids⟩
 exact owns_stay (I:=fun b=>b≠p) (fun b hb _=>hset b hb) (fun g hg e=>hO.own (by rw[hg,e])) hO.row
theorem pushN {c:Ctx}{w w1 w3:World}{j d:Nat}{t:Tr}{us:List Tr}{p g cap m:Nat}{u:Value}{ps qs:List Nat}(hO:Open w.heap.size w1 t p u ps)(hx:NAts (fun b=>w.heap.size≤b∧b≠p∧u.ownBlock≠some b) w1 (t.kids++us) (ps++qs))(hR:Rdr c w1 j d)(hA:Ap c.R w.heap.size w w1)(hlo:c.lo≤w.heap.size)
  (hown:w3.ownsRow w.heap.size 22 1 (.slice (some ⟨g,0,none⟩) m cap) m (ps.map nPtr++qs.map nPtr)) (hm:m=ps.length+qs.length) (hgr:w1.grownBy w3 u.ownBlock) (hg:u.ownBlock=some g∨g=w1.heap.size) :
  EV w.heap.size (w3.setCell ⟨p,3,none⟩ (.slice (some ⟨g,0,none⟩) m cap)) (.mk t.kd t.tx t.n (t.kids++us)) (nPtr p) ∧
  Rdr c (w3.setCell ⟨p,3,none⟩ (.slice (some ⟨g,0,none⟩) m cap)) j d ∧
  Ap c.R w.heap.size w (w3.setCell ⟨p,3,none⟩ (.slice (some ⟨g,0,none⟩) m cap)):=by
 have hrow:∀ k,u.ownBlock=some k→w.heap.size≤k:=fun k hk=>(own_lt hO.row k hk).2
 have hgrow:Below w.heap.size w1 w3:=(Below.refl w.heap.size w1).grown hgr hA.size hrow
 have hset:Below w.heap.size w1 (w3.setCell ⟨p,3,none⟩ (.slice (some ⟨g,0,none⟩) m cap)):=hgrow.setCell (p:=⟨p,3,none⟩) hO.low _
 refine⟨?_,hR.ap hset hlo,hA.trans (Ap.of hset)⟩
 exact ev_push hO.low hO.blk hO.own hx (by rw[List.map_append];exact hown) (by rw[hm,List.length_append]) hgr hg
theorem en239:∀ args W,(callFunc 312 args).run Tryz.prog W=.ok (.enter 312 args) W:=fun _ _=>by kernel_rfl
theorem en240:∀ args W,(callFunc 313 args).run Tryz.prog W=.ok (.enter 313 args) W:=fun _ _=>by kernel_rfl
theorem LV.many {B:Nat}{w:World}{ts:List Tr}{v:Value}(h:LV B w ts v)(hne:ts≠[]):∃ g cap qs,v=.slice (some ⟨g,0,none⟩) ts.length cap∧qs.length=ts.length∧NAts (From B) w ts qs∧(∀ j u,(qs.map nPtr)[j]? = some u→w.cell? ((⟨g,0,none⟩:Addr).add j)=some u):=by
 obtain⟨⟨qs,hr,hk⟩,_,_⟩:=h
 have hl:=NAts.length _ _ hk
 have hp:0<qs.length:=by rw[hl];exact List.length_pos_iff.2 hne
 obtain⟨g,cap,hv,hc⟩:=row_open hr hp
 refine⟨g,cap,qs,by rw[hv,hl],hl,NAts.mono (fun b hb _=>hb.1) _ _ hk,fun j u hj=>?_⟩
 rw[Addr.add_mid,Nat.zero_add]
 rw[List.getElem?_map] at hj
 cases hq:qs[j]? with
 | none=>rw[hq] at hj;cases hj
 | some q=>
  rw[hq] at hj;obtain⟨hlt,he⟩:=List.getElem?_eq_some_iff.1 hq;rw[hc j hlt,he];exact hj
theorem map_one (qs:List Nat):∀ u ∈ qs.map nPtr,u.oneCell'=true:=by
 intro u hu
 obtain⟨q,_,rfl⟩:=List.mem_map.1 hu
 rfl
theorem Open.cap {B:Nat}{w:World}{t:Tr}{p:Nat}{ua:Option Addr}{n uc:Nat}{ps:List Nat}(h:Open B w t p (.slice ua n uc) ps)(hp:0<t.kids.length):n≤uc∧∃ g,ua=some ⟨g,0,none⟩:=by
 have hl:=NAts.length _ _ h.kids
 rcases h.row.2 with hn|⟨g,cap,cur,hv,_,_,h1,_⟩
 ·omega
 ·simp only[Value.slice.injEq] at hv;obtain⟨rfl,rfl,rfl⟩:=hv;exact⟨h1,g,rfl⟩
open zrqbm in
theorem asked_any {c:Ctx}{F:Fns}(hF:FC c F)(hN:∃ k,FNx c.l k F)(hK:FOk F):Does c 303 NV (askedP c.l F):=by
 have hmf:=mf_bound c.R 312
 have hmf2:=mf_bound c.R 313
 intro w d i r hs ho h
 have HLO:=hide h.base.size
 have HE:=hide h.base.ends
 have HL:=hide h.base.len
 obtain⟨i0,hi0,hz0,hz1,hz2⟩:=info_parts info22
 have HNX:=hide hN
 have HFC:=hide hF
 have HR0:=hide h
 have HA0:=hide (Ap.refl c.R w.heap.size w)
 have HLT:=hide h.rlt
 unfold askedP at hs
 have HS:=hide hs
 have HO:=hide ho
 clear h hs ho
 go_enter Tryz.func303,Tryz.ntmps303
 cases hr:aloneP c.l F d i with
 | out=>
  exact zbal
 | bad er p=>
  have HC:=hide (alone_any hF hN hK w d i _ rfl (by rw[hr];nofun) HR0.out)
  exact zbax
 | ok x1 j1=>
  have HC:=hide (alone_any hF hN hK w d i _ rfl (by rw[hr];nofun) HR0.out)
  rw[hr] at HC HS;simp only[bind_ok] at HS;exact zrdg
theorem bind_assoc {α β γ:Type}(r:PR α)(f:α→Nat→PR β)(g:β→Nat→PR γ):(r.bind f).bind g=r.bind fun x i=>(f x i).bind g:=by cases r <;> rfl
theorem at_b {c:Ctx}{F:Fns}(hF:FC c F)(hN:∃ k,FNx c.l k F)(w:World)(d i i0:Nat)(h:Rdr c w i d)(hm:mustP c.l tTry i=.ok () i0)(er:Int)(p:Nat)(hb:blockP c.l F d i0=.bad er p):Calls Tryz.prog 170 #[rPtr c] w (PPost c w d (NV w.heap.size) (.bad er p)):=by
 have HLO:=hide h.base.size
 obtain⟨i0',hi0,hz0,hz1,hz2⟩:=info_parts info22
 have HR0:=hide h
 have HA0:=hide (Ap.refl c.R w.heap.size w)
 have HLT:=hide h.rlt
 clear h
 go_enter Tryz.func170,Tryz.ntmps170
 have HC:=hide (must_any c tTry w i d HR0.out (by decide))
 rw[hm] at HC
 go_wp2_with fail
 refine cm HC.out ?_
 intro e wa hp
 obtain⟨⟨va,rfl,rfl⟩,hrd,ha⟩:=hp
 clear HC
 have HRa:=hide hrd
 have HAa:=hide (HA0.out.next ha)
 clear hrd ha
 have HC:=hide (block_any hF hN wa d i0 _ rfl (by rw[hb];nofun) HRa.out)
 rw[hb] at HC
 go_wp2_with fail
 refine cm HC.out ?_
 intro e w' hp
 obtain⟨rfl,ha⟩:=hp
 exact⟨rfl,ppBad rfl (HAa.out.next ha)⟩
section
variable {c:Ctx} {F:Fns} (hF:FC c F) (hN:∃ k,FNx c.l k F) (w:World) (d i i0:Nat) (h:Rdr c w i d) (hm:mustP c.l tTry i=.ok () i0) (b:Tr) (i1:Nat) (hb:blockP c.l F d i0=.ok b i1)
include c F hF hN w d i i0 h hm b i1 hb
open zrqbn in
theorem at_none (hc:fx c.l i1≠tCatch)(hf:fx c.l i1≠tFinally):Calls Tryz.prog 170 #[rPtr c] w (PPost c w d (NV w.heap.size) (.bad 3 (tkA c.l i1).pl)):=by
 exact zeaa
open zrqbo in
theorem at_fin (hc:fx c.l i1≠tCatch)(hf:fx c.l i1=tFinally)(b2:Tr)(i2:Nat)(hb2:blockP c.l F d (i1+1)=.ok b2 i2):Calls Tryz.prog 170 #[rPtr c] w (PPost c w d (NV w.heap.size) (.ok (.mk 12 noText 0 [b,.mk 14 noText 0 [b2]]) i2)):=by
 exact zeaa
open zrqbp in
theorem at_finbad (hc:fx c.l i1≠tCatch)(hf:fx c.l i1=tFinally)(er:Int)(p:Nat)(hb2:blockP c.l F d (i1+1)=.bad er p):Calls Tryz.prog 170 #[rPtr c] w (PPost c w d (NV w.heap.size) (.bad er p)):=by
 exact zeaa
open zrqbq in
theorem at_cbad (hc:fx c.l i1=tCatch)(er:Int)(p:Nat)(hq:mustP c.l tOpen (i1+1)=.bad er p∨∃ i2,mustP c.l tOpen (i1+1)=.ok () i2∧(nameP c.l i2=.bad er p∨∃ s i3,nameP c.l i2=.ok s i3∧(mustP c.l tShut i3=.bad er p∨∃ i4,mustP c.l tShut i3=.ok () i4∧blockP c.l F d i4=.bad er p))):Calls Tryz.prog 170 #[rPtr c] w (PPost c w d (NV w.heap.size) (.bad er p)):=by
 have HQ:=hide hq
 clear hq
 exact zeaa
open zrqbr in
theorem at_catch (hc:fx c.l i1=tCatch)(i2:Nat)(h2:mustP c.l tOpen (i1+1)=.ok () i2)(s:ByteArray)(i3:Nat)(h3:nameP c.l i2=.ok s i3)(i4:Nat)(h4:mustP c.l tShut i3=.ok () i4)(b2:Tr)(i5:Nat)(h5:blockP c.l F d i4=.ok b2 i5)(hf:fx c.l i5≠tFinally):Calls Tryz.prog 170 #[rPtr c] w (PPost c w d (NV w.heap.size) (.ok (.mk 12 noText 0 [b,.mk 13 s 0 [b2]]) i5)):=by
 exact zeaa
end
theorem at_m {c:Ctx}(w:World)(d i:Nat)(h:Rdr c w i d)(er:Int)(p:Nat)(hm:mustP c.l tTry i=.bad er p):Calls Tryz.prog 170 #[rPtr c] w (PPost c w d (NV w.heap.size) (.bad er p)):=by
 have HR0:=hide h
 have HA0:=hide (Ap.refl c.R w.heap.size w)
 clear h
 go_enter Tryz.func170,Tryz.ntmps170
 have HC:=hide (must_any c tTry w i d HR0.out (by decide))
 rw[hm] at HC
 go_wp2_with fail
 refine cm HC.out ?_
 intro e w' hp
 obtain⟨rfl,ha⟩:=hp
 exact⟨rfl,ppBad rfl (HA0.out.next ha)⟩
section
variable {c:Ctx} {F:Fns} (hF:FC c F) (hN:∃ k,FNx c.l k F) (w:World) (d i i0:Nat) (h:Rdr c w i d) (hm:mustP c.l tTry i=.ok () i0) (b:Tr) (i1:Nat) (hb:blockP c.l F d i0=.ok b i1) (hc:fx c.l i1=tCatch) (i2:Nat) (h2:mustP c.l tOpen (i1+1)=.ok () i2) (s:ByteArray) (i3:Nat) (h3:nameP c.l i2=.ok s i3) (i4:Nat) (h4:mustP c.l tShut i3=.ok () i4) (b2:Tr) (i5:Nat) (h5:blockP c.l F d i4=.ok b2 i5) (hf:fx c.l i5=tFinally)
include c F hF hN w d i i0 h hm b i1 hb hc i2 h2 s i3 h3 i4 h4 b2 i5 h5 hf
open zrqbs in
theorem at_both (b3:Tr)(i6:Nat)(h6:blockP c.l F d (i5+1)=.ok b3 i6):Calls Tryz.prog 170 #[rPtr c] w (PPost c w d (NV w.heap.size) (.ok (.mk 12 noText 0 [b,.mk 13 s 0 [b2],.mk 14 noText 0 [b3]]) i6)):=by
 exact zeaa
open zrqbt in
theorem at_bothbad (er:Int)(p:Nat)(h6:blockP c.l F d (i5+1)=.bad er p):Calls Tryz.prog 170 #[rPtr c] w (PPost c w d (NV w.heap.size) (.bad er p)):=by
 exact zeaa
end
theorem bind_inv {α β:Type}{r:PR α}{f:α→Nat→PR β}{y:β}{j:Nat}(h:r.bind f=.ok y j):∃ x i,r=.ok x i∧f x i=.ok y j:=by
 cases r with
 | ok x i=>exact⟨x,i,rfl,h⟩
 | bad er p=>cases h
 | out=>cases h
theorem hd_ne {s:ByteArray}:hdKind s≠15:=by
 unfold hdKind look2
 cases hf:hds.find? (fun e=>decide (s=e.1)) with
 | none=>decide
 | some e=>
  have hm:=List.mem_of_find?_eq_some hf;simp only[hds,List.mem_cons,List.not_mem_nil,or_false] at hm
  rcases hm with rfl|rfl|rfl|rfl|rfl|rfl|rfl|rfl <;> decide
theorem funcTail_kd {l:List Tk}{F:Fns}{kd:Int}{s:ByteArray}{d i j:Nat}{t:Tr}(h:funcTail l F kd s d i=.ok t j):t.kd=kd:=by
 unfold funcTail at h
 obtain⟨_,_,_,h⟩:=bind_inv h
 obtain⟨_,_,_,h⟩:=bind_inv h
 cases h;rfl
theorem part_kd {l:List Tk}{F:Fns}{d q i j:Nat}{t:Tr}(h:partP l F d q i=.ok t j):t.kd≠15:=by
 unfold partP at h
 split at h
 ·unfold declP at h;obtain⟨_,_,_,h⟩:=bind_inv h
  split at h
  ·
   cases h
  ·split at h
   ·exact zbfs
   ·obtain⟨_,_,_,h⟩:=bind_inv h
    cases h;exact hd_ne
 ·unfold funcP at h;obtain⟨_,_,_,h⟩:=bind_inv h;obtain⟨_,_,_,h⟩:=bind_inv h;rw[funcTail_kd h];decide
 ·unfold blockP at h;obtain⟨_,_,_,h⟩:=bind_inv h;obtain⟨_,_,_,h⟩:=bind_inv h;cases h
  show (6:Int)≠15
  decide
 ·obtain⟨_,_,_,h⟩:=bind_inv h
  cases h;decide
 ·unfold choiceP at h;obtain⟨_,_,_,h⟩:=bind_inv h;obtain⟨_,_,_,h⟩:=bind_inv h
  split at h
  ·obtain⟨_,_,_,h⟩:=bind_inv h
   cases h;exact hd_ne
  ·
   cases h;exact hd_ne
 ·unfold behindP at h;exact zbfs
 ·unfold givingP at h
  split at h
  ·exact zbfs
  ·obtain⟨_,_,_,h⟩:=bind_inv h
   cases h;exact hd_ne
 ·unfold attemptP at h;obtain⟨_,_,_,h⟩:=bind_inv h;obtain⟨_,_,_,h⟩:=bind_inv h;obtain⟨_,_,_,h⟩:=bind_inv h;obtain⟨_,_,_,h⟩:=bind_inv h
  split at h
  ·
   cases h
  ·
   cases h
   show (12:Int)≠15
   decide
theorem fns_ok (l:List Tk):∀ k,FOk (fns l k):=by
 intro k
 cases k with
 | zero=>intro d i t j h;cases h
 | succ k=>
  intro d i t j h h15;have h':statementP l (fns l k) d i=.ok t j:=h;unfold statementP at h'
  split at h'
  ·exact absurd h15 (part_kd h')
  ·exact zbgy
theorem attempt_any {c:Ctx}{F:Fns}(hF:FC c F)(hN:∃ k,FNx c.l k F):Does c 170 NV (attemptP c.l F):=by
 intro w d i r hs ho h
 unfold attemptP at hs
 cases hm:mustP c.l tTry i with
 | out=>rw[hm] at hs;exact absurd hs.symm ho
 | bad er p=>rw[hm,bind_bad] at hs;subst hs;exact at_m w d i h er p hm
 | ok x i0=>
  rw[hm,bind_ok] at hs
  cases hb:blockP c.l F d i0 with
  | out=>rw[hb] at hs;exact absurd hs.symm ho
  | bad er p=>rw[hb,bind_bad] at hs;subst hs;exact at_b hF hN w d i i0 h hm er p hb
  | ok b i1=>
   rw[hb,bind_ok] at hs;unfold catchP at hs
   by_cases hc:fx c.l i1=tCatch
   ·rw[if_pos hc,bind_assoc] at hs
    cases h2:mustP c.l tOpen (i1+1) with
    | out=>rw[h2] at hs;exact absurd hs.symm ho
    | bad er p=>rw[h2,bind_bad] at hs;subst hs;exact at_cbad hF hN w d i i0 h hm b i1 hb hc er p (Or.inl h2)
    | ok x2 i2=>
     rw[h2,bind_ok,bind_assoc] at hs
     cases h3:nameP c.l i2 with
     | out=>rw[h3] at hs;exact absurd hs.symm ho
     | bad er p=>rw[h3,bind_bad] at hs;subst hs;exact at_cbad hF hN w d i i0 h hm b i1 hb hc er p (Or.inr ⟨i2,h2,Or.inl h3⟩)
     | ok s i3=>
      rw[h3,bind_ok,bind_assoc] at hs
      cases h4:mustP c.l tShut i3 with
      | out=>rw[h4] at hs;exact absurd hs.symm ho
      | bad er p=>rw[h4,bind_bad] at hs;subst hs;exact at_cbad hF hN w d i i0 h hm b i1 hb hc er p (Or.inr ⟨i2,h2,Or.inr ⟨s,i3,h3,Or.inl h4⟩⟩)
      | ok x4 i4=>
       rw[h4,bind_ok,bind_assoc] at hs
       cases h5:blockP c.l F d i4 with
       | out=>rw[h5] at hs;exact absurd hs.symm ho
       | bad er p=>rw[h5,bind_bad] at hs;subst hs;exact at_cbad hF hN w d i i0 h hm b i1 hb hc er p (Or.inr ⟨i2,h2,Or.inr ⟨s,i3,h3,Or.inr ⟨i4,h4,h5⟩⟩⟩)
       | ok b2 i5=>
        rw[h5,bind_ok,bind_ok] at hs;unfold finallyP at hs
        by_cases hf:fx c.l i5=tFinally
        ·rw[if_pos hf,bind_assoc] at hs
         cases h6:blockP c.l F d (i5+1) with
         | out=>rw[h6] at hs;exact absurd hs.symm ho
         | bad er p=>rw[h6,bind_bad] at hs;subst hs;exact at_bothbad hF hN w d i i0 h hm b i1 hb hc i2 h2 s i3 h3 i4 h4 b2 i5 h5 hf er p h6
         | ok b3 i6=>
          rw[h6,bind_ok,bind_ok,if_neg (by simp)] at hs;subst hs;exact at_both hF hN w d i i0 h hm b i1 hb hc i2 h2 s i3 h3 i4 h4 b2 i5 h5 hf b3 i6 h6
        ·rw[if_neg hf,bind_ok,if_neg (by simp)] at hs;subst hs;exact at_catch hF hN w d i i0 h hm b i1 hb hc i2 h2 s i3 h3 i4 h4 b2 i5 h5 hf
   ·rw[if_neg hc,bind_ok] at hs;unfold finallyP at hs
    by_cases hf:fx c.l i1=tFinally
    ·rw[if_pos hf,bind_assoc] at hs
     cases h6:blockP c.l F d (i1+1) with
     | out=>rw[h6] at hs;exact absurd hs.symm ho
     | bad er p=>rw[h6,bind_bad] at hs;subst hs;exact at_finbad hF hN w d i i0 h hm b i1 hb hc hf er p h6
     | ok b3 i6=>
      rw[h6,bind_ok,bind_ok,if_neg (by simp)] at hs;subst hs;exact at_fin hF hN w d i i0 h hm b i1 hb hc hf b3 i6 h6
    ·rw[if_neg hf,bind_ok,if_pos (by simp)] at hs;subst hs;exact at_none hF hN w d i i0 h hm b i1 hb hc hf
theorem en127:∀ args W,(callFunc 163 args).run Tryz.prog W=.ok (.enter 163 args) W:=fun _ _=>by kernel_rfl
theorem en128:∀ args W,(callFunc 164 args).run Tryz.prog W=.ok (.enter 164 args) W:=fun _ _=>by kernel_rfl
theorem en129:∀ args W,(callFunc 165 args).run Tryz.prog W=.ok (.enter 165 args) W:=fun _ _=>by kernel_rfl
theorem en130:∀ args W,(callFunc 166 args).run Tryz.prog W=.ok (.enter 166 args) W:=fun _ _=>by kernel_rfl
theorem en131:∀ args W,(callFunc 167 args).run Tryz.prog W=.ok (.enter 167 args) W:=fun _ _=>by kernel_rfl
theorem en132:∀ args W,(callFunc 168 args).run Tryz.prog W=.ok (.enter 168 args) W:=fun _ _=>by kernel_rfl
theorem en133:∀ args W,(callFunc 169 args).run Tryz.prog W=.ok (.enter 169 args) W:=fun _ _=>by kernel_rfl
theorem en134:∀ args W,(callFunc 170 args).run Tryz.prog W=.ok (.enter 170 args) W:=fun _ _=>by kernel_rfl
theorem st_lt {s:ByteArray}{q:Nat}(h:look2 stKeys s=some q):q<8:=by
 unfold look2 at h
 cases hf:stKeys.find? (fun e=>decide (s=e.1)) with
 | none=>rw[hf] at h;cases h
 | some e=>
  rw[hf] at h;have hm:=List.mem_of_find?_eq_some hf;simp only[Option.map_some,Option.some.injEq] at h;subst h;simp only[stKeys,List.mem_cons,List.not_mem_nil,or_false] at hm
  rcases hm with rfl|rfl|rfl|rfl|rfl|rfl|rfl|rfl|rfl|rfl|rfl|rfl <;> decide
theorem ppEV {c:Ctx}{w:World}{d:Nat}{r:PR Tr}{e:Ending}{w':World}(h:PPost c w d (EV w.heap.size) r e w'):PPost c w d (NV w.heap.size) r e w':=by
 cases r with
 | ok x j=>
  obtain⟨⟨v,h1,h2⟩,h3,h4⟩:=h;exact⟨⟨v,h1,h2.nv⟩,h3,h4⟩
 | bad er p=>exact h
 | out=>exact h
theorem statement_any {c:Ctx}{F:Fns}(hF:FC c F)(hN:∃ k,FNx c.l k F)(hK:FOk F):Does c 176 NV (statementP c.l F):=by
 intro w d i r hs ho h
 unfold statementP at hs
 cases hq:look2 stKeys (fx c.l i) with
 | none=>rw[hq] at hs;exact st_none hF w d i r hs ho hq h
 | some q=>
  rw[hq] at hs;have hlt:=st_lt hq;have hk6:(tkA c.l i).kd≠6:=fun h6=>by
   have:fx c.l i=noText:=by unfold fx;rw[h6];rfl
   have h0:look2 stKeys noText=none:=by decide
   rw[this,h0] at hq;cases hq
  have h8:q=0∨q=1∨q=2∨q=3∨q=4∨q=5∨q=6∨q=7:=by omega
  rcases h8 with rfl|rfl|rfl|rfl|rfl|rfl|rfl|rfl
  ·exact st_some 163 en127 w d i r ho 0 hq rfl (fun W hW=>decl_any hF W d i r hk6 hs ho hW) h
  ·exact st_some 164 en128 w d i r ho 1 hq rfl (fun W hW=>func_any hF hN hK W d i r hs ho hW) h
  ·exact st_some 165 en129 w d i r ho 2 hq rfl (fun W hW=>(block_any hF hN W d i r hs ho hW).mono fun e w' hp=>ppEV hp) h
  ·exact st_some 166 en130 w d i r ho 3 hq rfl (fun W hW=>empty_any W d i r hs ho hW) h
  ·exact st_some 167 en131 w d i r ho 4 hq rfl (fun W hW=>choice_any hF W d i r hk6 hs ho hW) h
  ·exact st_some 168 en132 w d i r ho 5 hq rfl (fun W hW=>(behind_any hF W d i r hk6 hs ho hW).mono fun e w' hp=>ppEV hp) h
  ·exact st_some 169 en133 w d i r ho 6 hq rfl (fun W hW=>giving_any hF W d i r hk6 hs ho hW) h
  ·exact st_some 170 en134 w d i r ho 7 hq rfl (fun W hW=>attempt_any hF hN W d i r hs ho hW) h
theorem fns_does (c:Ctx)(hE:Ends c.l):∀ k,FC c (fns c.l k):=by
 intro k
 induction k with
 | zero=>exact⟨fun _ _ _ r hs ho _=>absurd hs.symm ho,fun _ _ _ r hs ho _=>absurd hs.symm ho,fun _ _ _ _ _ _ r hs ho _=>absurd hs.symm ho,fun _ _ _ r hs ho _=>absurd hs.symm ho⟩
 | succ k ih=>
  have hN:∃ q,FNx c.l q (fns c.l k):=⟨k,fns_nx hE k⟩
  exact⟨statement_any ih hN (fns_ok c.l k),value_any ih,fun b _ _ w d i r hs ho h=>pair_any ih hN b w d i r hs ho h,single_any ih (asked_any ih hN (fns_ok c.l k))⟩
end Go.Proofs.YtoimgcjbcbhclaaGreatDoor
namespace Go.Proofs.YtoimgcjbcbhclaaGreatDoor
theorem binds {α β:Type}{r:PR α}{f:α→Nat→PR β}{y:β}{j:Nat}(h:r.bind f=.ok y j):∃ x i,r=.ok x i∧f x i=.ok y j:=by
 cases r with
 | ok x i=>exact⟨x,i,rfl,h⟩
 | bad er p=>cases h
 | out=>cases h
theorem count_mk (kd:Int)(tx:ByteArray)(n:Int)(ks:List Tr):(Tr.mk kd tx n ks).count=1+Tr.counts ks:=by rw[Tr.count]
theorem counts_nil:Tr.counts []=0:=by rw[Tr.counts]
theorem counts_cons (t:Tr)(ts:List Tr):Tr.counts (t::ts)=t.count+Tr.counts ts:=by rw[Tr.counts]
theorem counts_app:∀ (ts us:List Tr),Tr.counts (ts++us)=Tr.counts ts+Tr.counts us
 | [],us=>by rw[List.nil_append,counts_nil,Nat.zero_add]
 | t::ts,us=>by rw[List.cons_append,counts_cons,counts_cons,counts_app ts us,Nat.add_assoc]
theorem code_count (t:Tr):(codeT t).count=t.count:=by
 unfold codeT
 split
 ·rw[count_mk,count_mk]
 ·rfl
section
variable {l:List Tk}
theorem must_eq {s:ByteArray}{i j:Nat}{x:Unit}(h:mustP l s i=.ok x j):j=i+1:=by
 unfold mustP at h
 split at h
 ·
  cases h;rfl
 ·
  cases h
theorem name_eq {s:ByteArray}{i j:Nat}(h:nameP l i=.ok s j):j=i+1:=by
 unfold nameP at h
 split at h
 ·
  cases h;rfl
 ·
  cases h
def Cb (i:Nat)(r:PR Tr):Prop:=∀ t j,r=.ok t j→t.count+3 * i≤3 * j
def Cbs (i:Nat)(r:PR (List Tr)):Prop:=∀ t j,r=.ok t j→Tr.counts t+3 * i≤3 * j
theorem deep_cb {f:Nat→Nat→PR Tr}{d i:Nat}(h:Cb i (f (d+1) i)):Cb i (deepP l f d i):=by
 unfold deepP
 split
 ·intro t j e;cases e
 ·exact h
theorem listLoop_cb {shut:ByteArray}{begins:Nat→Bool}{part:Nat→PR Tr}(hp:∀ i,Cb i (part i)):∀ k acc i t j,listLoop l shut begins part k acc i=.ok t j→Tr.counts t+3 * i≤Tr.counts acc+3 * j:=by
 intro k
 induction k with
 | zero=>intro acc i t j h;cases h
 | succ k ih=>
  intro acc i t j h;unfold listLoop at h
  split at h
  ·
   cases h
  ·obtain⟨u,i1,h1,h⟩:=binds h;have:=hp i u i1 h1
   split at h
   ·
    cases h;rw[counts_app,counts_cons,counts_nil];omega
   ·obtain⟨_,i2,h2,h⟩:=binds h;have h3:=must_eq h2;have h4:=ih _ _ _ _ h;rw[counts_app,counts_cons,counts_nil] at h4;omega
theorem list_cb {opn shut:ByteArray}{begins:Nat→Bool}{part:Nat→PR Tr}(hp:∀ i,Cb i (part i)){k i j:Nat}{t:List Tr}(h:listP l opn shut begins part k i=.ok t j):Tr.counts t+3 * i+3≤3 * j:=by
 unfold listP at h
 obtain⟨_,i1,h1,h⟩:=binds h
 have h2:=must_eq h1
 split at h
 ·
  cases h;rw[counts_nil];omega
 ·have:=listLoop_cb hp _ _ _ _ _ h;rw[counts_nil] at this;omega
structure FCb (F:Fns):Prop where
 st:∀ d i,Cb i (F.st d i)
 vl:∀ d i,Cb i (F.vl d i)
 pr:∀ b d i,Cb i (F.pr b d i)
 sg:∀ d i,Cb i (F.sg d i)
variable {F:Fns} (hF:FCb F)
include hF
theorem blockLoop_cb {d:Nat}:∀ k acc i t j,blockLoop l F d k acc i=.ok t j→Tr.counts t+3 * i+3≤Tr.counts acc+3 * j:=by
 intro k
 induction k with
 | zero=>intro acc i t j h;cases h
 | succ k ih=>
  intro acc i t j h;unfold blockLoop at h;exact zbfo
theorem block_cb {d i j:Nat}{t:Tr}(h:blockP l F d i=.ok t j):t.count+3 * i+5≤3 * j:=by
 unfold blockP at h
 obtain⟨_,i1,h1,h⟩:=binds h
 obtain⟨ts,i2,h2,h⟩:=binds h
 cases h
 have h3:=must_eq h1
 have h4:=blockLoop_cb hF _ _ _ _ _ h2
 rw[counts_nil] at h4
 rw[count_mk];omega
omit hF in
theorem param_cb (i:Nat):Cb i (paramP l i):=by
 intro t j h
 unfold paramP at h
 obtain⟨_,i1,h1,h⟩:=binds h
 cases h
 have:=name_eq h1
 rw[count_mk,counts_nil];omega
omit hF in
theorem params_cb {i j:Nat}{t:Tr}(h:paramsP l F i=.ok t j):t.count+3 * i+2≤3 * j:=by
 unfold paramsP at h
 obtain⟨ts,i1,h1,h⟩:=binds h
 cases h
 have:=list_cb param_cb h1
 rw[count_mk];omega
section
variable (d i:Nat)
include d i
theorem arg_cb:Cb i (argP l F d i):=deep_cb (hF.vl _ _)
theorem prop_cb:Cb i (propP l F d i):=by
 intro t j h
 unfold propP at h
 obtain⟨_,i1,h1,h⟩:=binds h
 obtain⟨_,i2,h2,h⟩:=binds h
 obtain⟨u,i3,h3,h⟩:=binds h
 cases h
 have e1:=name_eq h1
 have e2:=must_eq h2
 have e3:=deep_cb (l:=l) (hF.vl _ _) u _ h3
 rw[count_mk,counts_cons,counts_nil];omega
theorem inPar_cb:Cb i (inParP l F d i):=by
 intro t j h
 unfold inParP at h
 obtain⟨_,i1,h1,h⟩:=binds h
 obtain⟨u,i2,h2,h⟩:=binds h
 obtain⟨_,i3,h3,h⟩:=binds h
 cases h
 have e1:=must_eq h1
 have e2:=deep_cb (l:=l) (hF.vl _ _) _ _ h2
 have e3:=must_eq h3
 omega
theorem object_cb:Cb i (objectP l F d i):=by
 intro t j h
 unfold objectP at h
 obtain⟨ts,i1,h1,h⟩:=binds h
 cases h
 have:=list_cb (prop_cb hF d) h1
 rw[count_mk];omega
end
theorem tail_cb {kd:Int}{s:ByteArray}{d i j:Nat}{t:Tr}(h:funcTail l F kd s d i=.ok t j):t.count+3 * i≤3 * j:=by
 unfold funcTail at h
 obtain⟨ps,i1,h1,h⟩:=binds h
 obtain⟨b,i2,h2,h⟩:=binds h
 cases h
 have e1:=params_cb h1
 have e2:=block_cb hF h2
 rw[count_mk,counts_cons,counts_cons,counts_nil,code_count];omega
theorem lambda_cb (d i:Nat):Cb i (lambdaP l F d i):=by
 intro t j h
 unfold lambdaP at h
 obtain⟨_,i1,h1,h⟩:=binds h
 have e1:=must_eq h1
 split at h
 ·obtain⟨_,i2,h2,h⟩:=binds h;have e2:=name_eq h2;have:=tail_cb hF h;omega
 ·have:=tail_cb hF h;omega
theorem func_cb (d i:Nat):Cb i (funcP l F d i):=by
 intro t j h
 unfold funcP at h
 obtain⟨_,i1,h1,h⟩:=binds h
 obtain⟨_,i2,h2,h⟩:=binds h
 have e1:=must_eq h1
 have e2:=name_eq h2
 have:=tail_cb hF h
 omega
theorem alone_cb (d i:Nat):Cb i (aloneP l F d i):=by
 unfold aloneP
 split
 ·exact inPar_cb hF d i
 ·exact object_cb hF d i
 ·exact lambda_cb hF d i
 ·split
  ·intro t j h;cases h;rw[count_mk,counts_nil];omega
  ·split
   ·intro t j h;cases h;rw[count_mk,counts_nil];omega
   ·split
    ·intro t j h;cases h;rw[count_mk,counts_nil];omega
    ·split
     ·intro t j h;cases h;rw[count_mk,counts_nil];omega
     ·intro t j h;cases h
theorem askedLoop_cb {d:Nat}:∀ k u i t j,askedLoop l F d k u i=.ok t j→t.count+3 * i≤u.count+3 * j:=by
 intro k
 induction k with
 | zero=>intro u i t j h;cases h
 | succ k ih=>
  intro u i t j h;unfold askedLoop at h
  split at h
  ·obtain⟨s,i1,h1,h⟩:=binds h;have e1:=name_eq h1;have e2:=ih _ _ _ _ h;rw[count_mk,counts_cons,counts_nil] at e2;omega
  ·split at h
   ·obtain⟨ts,i1,h1,h⟩:=binds h;have e1:=list_cb (arg_cb hF d) h1;have e2:=ih _ _ _ _ h;rw[count_mk,counts_cons] at e2;omega
   ·
    cases h;omega
theorem asked_cb (d i:Nat):Cb i (askedP l F d i):=by
 intro t j h
 unfold askedP at h
 obtain⟨u,i1,h1,h⟩:=binds h
 have e1:=alone_cb hF d i u i1 h1
 have e2:=askedLoop_cb hF _ _ _ _ _ h
 omega
theorem single_cb (d i:Nat):Cb i (singleP l F d i):=by
 unfold singleP
 split
 ·intro t j h;obtain⟨u,i1,h1,h⟩:=binds h;cases h;have:=deep_cb (l:=l) (hF.sg _ _) u _ h1;rw[count_mk,counts_cons,counts_nil];omega
 ·exact asked_cb hF d i
theorem pairLoop_cb {b:Int}{d:Nat}:∀ k u i t j,pairLoop l F b d k u i=.ok t j→t.count+3 * i≤u.count+3 * j:=by
 intro k
 induction k with
 | zero=>intro u i t j h;cases h
 | succ k ih=>
  intro u i t j h;unfold pairLoop at h
  split at h
  ·
   cases h;omega
  ·split at h
   ·
    cases h;omega
   ·obtain⟨v,i1,h1,h⟩:=binds h;have e1:=hF.pr _ _ _ v i1 h1;have e2:=ih _ _ _ _ h;rw[count_mk,counts_cons,counts_cons,counts_nil] at e2;omega
theorem pair_cb (b:Int)(d i:Nat):Cb i (pairP l F b d i):=by
 intro t j h
 unfold pairP at h
 obtain⟨u,i1,h1,h⟩:=binds h
 have e1:=hF.sg _ _ u i1 h1
 have e2:=pairLoop_cb hF _ _ _ _ _ h
 omega
theorem value_cb (d i:Nat):Cb i (valueP l F d i):=by
 intro t j h
 unfold valueP at h
 obtain⟨u,i1,h1,h⟩:=binds h
 have e1:=hF.pr _ _ _ u i1 h1
 split at h
 ·split at h
  ·obtain⟨v,i2,h2,h⟩:=binds h;cases h;have e2:=deep_cb (l:=l) (hF.vl _ _) v _ h2;rw[count_mk,counts_cons,counts_cons,counts_nil];omega
  ·
   cases h
 ·
  cases h;exact e1
theorem part_cb (d q i:Nat):Cb i (partP l F d q i):=by
 intro t j h
 unfold partP at h
 split at h
 ·unfold declP at h;obtain⟨s,i1,h1,h⟩:=binds h;have e1:=name_eq h1
  split at h
  ·
   cases h
  ·split at h
   ·obtain⟨v,i2,h2,h⟩:=binds h;obtain⟨_,i3,h3,h⟩:=binds h;cases h;have e2:=deep_cb (l:=l) (hF.vl _ _) v _ h2;have e3:=must_eq h3;rw[count_mk,counts_cons,counts_nil];omega
   ·obtain⟨_,i3,h3,h⟩:=binds h;cases h;have e3:=must_eq h3;rw[count_mk,counts_nil];omega
 ·exact func_cb hF d i t j h
 ·have:=block_cb hF h;omega
 ·obtain⟨_,i3,h3,h⟩:=binds h;cases h;have e3:=must_eq h3;rw[count_mk,counts_nil];omega
 ·unfold choiceP at h;obtain⟨v,i1,h1,h⟩:=binds h;obtain⟨s,i2,h2,h⟩:=binds h;have e1:=inPar_cb hF d _ v i1 h1;have e2:=deep_cb (l:=l) (hF.st _ _) s _ h2
  split at h
  ·obtain⟨s2,i3,h3,h⟩:=binds h;cases h;have e3:=deep_cb (l:=l) (hF.st _ _) s2 _ h3;rw[count_mk,counts_cons,counts_cons,counts_cons,counts_nil];omega
  ·
   cases h;rw[count_mk,counts_cons,counts_cons,counts_nil];omega
 ·unfold behindP at h;obtain⟨v,i1,h1,h⟩:=binds h;obtain⟨s,i2,h2,h⟩:=binds h;cases h;have e1:=inPar_cb hF d _ v i1 h1;have e2:=deep_cb (l:=l) (hF.st _ _) s _ h2
  rw[count_mk,counts_cons,counts_cons,counts_nil];omega
 ·unfold givingP at h
  split at h
  ·exact zbfr
  ·obtain⟨_,i2,h2,h⟩:=binds h;cases h;have e2:=must_eq h2;rw[count_mk,counts_nil];omega
 ·unfold attemptP at h;obtain⟨_,i0,h0,h⟩:=binds h;obtain⟨b,i1,h1,h⟩:=binds h;obtain⟨c,i2,h2,h⟩:=binds h;obtain⟨f,i3,h3,h⟩:=binds h;have e0:=must_eq h0;have e1:=block_cb hF h1
  have e2:Tr.counts c+3 * i1≤3 * i2:=by
   unfold catchP at h2
   split at h2
   ·obtain⟨_,k1,g1,h2⟩:=binds h2;obtain⟨_,k2,g2,h2⟩:=binds h2;obtain⟨_,k3,g3,h2⟩:=binds h2;obtain⟨bb,k4,g4,h2⟩:=binds h2;cases h2;have:=must_eq g1;have:=name_eq g2;have:=must_eq g3
    have:=block_cb hF g4;rw[counts_cons,count_mk,counts_cons,counts_nil];omega
   ·
    cases h2;rw[counts_nil];omega
  have e3:Tr.counts f+3 * i2≤3 * i3:=by
   unfold finallyP at h3
   split at h3
   ·obtain⟨bb,k4,g4,h3⟩:=binds h3;cases h3;have:=block_cb hF g4;rw[counts_cons,count_mk,counts_cons,counts_nil];omega
   ·
    cases h3;rw[counts_nil];omega
  split at h
  ·
   cases h
  ·
   cases h;rw[count_mk,counts_cons,counts_app];omega
theorem statement_cb (d i:Nat):Cb i (statementP l F d i):=by
 unfold statementP
 split
 ·exact part_cb hF d _ i
 ·intro t j h;unfold exprP at h;exact zbfr
omit hF in
theorem fns_cb:∀ k,FCb (fns l k):=by
 intro k
 induction k with
 | zero=>exact⟨fun _ _ _ _ h=>by (cases h),fun _ _ _ _ h=>by (cases h),fun _ _ _ _ _ h=>by (cases h),fun _ _ _ _ h=>by (cases h)⟩
 | succ k ih=>exact⟨statement_cb ih,value_cb ih,pair_cb ih,single_cb ih⟩
theorem progLoop_cb:∀ k acc i t j,progLoop l F k acc i=.ok t j→Tr.counts t+3 * i≤Tr.counts acc+3 * j:=by
 intro k
 induction k with
 | zero=>intro acc i t j h;cases h
 | succ k ih=>
  intro acc i t j h;unfold progLoop at h;exact zbfo
theorem prog_cb {t:Tr}{j:Nat}(h:progP l F=.ok t j):t.count≤1+3 * j:=by
 unfold progP at h
 obtain⟨ts,i1,h1,h⟩:=binds h
 cases h
 have:=progLoop_cb hF _ _ _ _ _ h1
 rw[counts_nil] at this
 rw[code_count,count_mk];omega
end
end Go.Proofs.YtoimgcjbcbhclaaGreatDoor
namespace Go.Proofs.YtoimgcjbcbhclaaGreatDoor
open Go.RowKit
theorem NAts.get {I:Nat→Prop}{w:World}:∀ (ts:List Tr) (ps:List Nat),NAts I w ts ps→∀ k,(hk:k<ts.length)→∃ hp:k<ps.length,NAt I w ts[k] ps[k]
 | [],_,_,k,hk=>absurd hk (by simp)
 | t::ts,ps,h,k,hk=>by
  obtain⟨p,ps',rfl,h1,h2⟩:=h.parts
  cases k with
  | zero=>exact⟨by simp,h1⟩
  | succ k=>
   obtain⟨hp,hn⟩:=NAts.get ts ps' h2 k (by simpa using hk);exact⟨by simpa using hp,by simpa using hn⟩
theorem NLs.get {I:Nat→Prop}{w:World}:∀ (ts:List Tr) (ps:List Nat),NLs I w ts ps→∀ k,(hk:k<ts.length)→∃ hp:k<ps.length,NAt I w ts[k] ps[k]
 | [],_,_,k,hk=>absurd hk (by simp)
 | t::ts,ps,h,k,hk=>by
  obtain⟨p,ps',rfl,h1,h2⟩:=h
  cases k with
  | zero=>exact⟨by simp,h1⟩
  | succ k=>
   obtain⟨hp,hn⟩:=NLs.get ts ps' h2 k (by simpa using hk);exact⟨by simpa using hp,by simpa using hn⟩
theorem counts_take:∀ (ts:List Tr) (k:Nat) (hk:k<ts.length),Tr.counts (ts.take (k+1))=Tr.counts (ts.take k)+(ts[k]).count
 | [],k,hk=>absurd hk (by simp)
 | t::ts,0,_=>by simp[counts_cons,counts_nil]
 | t::ts,k+1,hk=>by
  have:=counts_take ts k (by simpa using hk);simp only[List.take_succ_cons,counts_cons,List.getElem_cons_succ];omega
theorem counts_le (ts:List Tr)(k:Nat)(hk:k<ts.length):(ts[k]).count≤Tr.counts ts:=by
 have h1:=counts_take ts k hk
 have h2:Tr.counts ts=Tr.counts (ts.take (k+1))+Tr.counts (ts.drop (k+1)):=by rw[←counts_app,List.take_append_drop]
 omega
theorem count_pos (t:Tr):1≤t.count:=by cases t with|mk kd tx n ks=>rw[count_mk];omega
theorem counts_len:∀ (ts:List Tr),ts.length≤Tr.counts ts
 | []=>by simp
 | t::ts=>by
  have h1:=count_pos t;have h2:=counts_len ts;rw[counts_cons,List.length_cons];omega
abbrev cntV (b:Nat):Value:=.func (.func 104) #[] #[.pointer (some ⟨b,0,none⟩)]
theorem count1_any (v:Value)(b:Nat)(n:Int)(w:World)(hc:w.cell? ⟨b,0,none⟩=some (.int .i64 n))(hf:∀ o,w.frozen? ⟨b,o,none⟩=false)(hn:0≤n)(hn2:n≤100000) :
  Calls Tryz.prog 104 #[v,.pointer (some ⟨b,0,none⟩)] w fun e w'=>e=.returned (.bool true)∧w'=w.setCell ⟨b,0,none⟩ (.int .i64 (n+1)):=by
 go_enter Tryz.func104,Tryz.ntmps104
 go_wp2_with fail
 go_ret
 exact⟨rfl,rfl⟩
theorem NAt.opens2 {I:Nat→Prop}{w:World}{t:Tr}{p:Nat}(h:NAt I w t p):∃ u ps,w.heap[p]? = some (nodeObj t.kd t.tx t.n u)∧w.ownsRow 0 22 1 u ps.length (ps.map nPtr)∧(∀ g,u.ownBlock=some g→I g)∧NAts I w t.kids ps:=by
 cases t with
 | mk kd tx n ks=>
  rw[NAt] at h;obtain⟨_,u,ps,h1,h2,h3⟩:=h;exact⟨u,ps,h1,h2.1,h2.2,NAts.mono (fun b hb _=>hb.1) _ _ h3⟩
structure Cnt (b:Nat)(n:Nat)(w:World):Prop where
 blk:w.heap[b]? = some (.cells #[.int .i64 (n:Int)] 3 (0,0))
theorem Cnt.set {b n:Nat}{w:World}(h:Cnt b n w)(m:Nat){v:Int}(hv:v=(m:Int)):Cnt b m (w.setCell ⟨b,0,none⟩ (.int .i64 v)):=⟨by rw[heap_set h.blk,hv];rfl⟩
theorem en90:∀ args W,(callFunc 104 args).run Tryz.prog W=.ok (.enter 104 args) W:=fun _ _=>by kernel_rfl
theorem walk_any (b:Nat):∀ (m:Nat) (t:Tr),t.count≤m→∀ (p n:Nat) (w:World),NAt (fun x=>x≠b) w t p→Cnt b n w→n+t.count≤100000 →
  Calls Tryz.prog 31 #[nPtr p,cntV b] w fun e w'=>e=.returned (.tuple #[])∧Cnt b (n+t.count) w'∧Ap b w.heap.size w w':=by
 intro m
 induction m with
 | zero=>
  exact zbeo
 | succ m ih=>
  intro t ht p n w hnt hcn hbd;obtain⟨u,ps,hblk,hrow,hri,hks⟩:=hnt.opens2;have hlen:=NAts.length _ _ hks;have hpb:p≠b:=by
   cases t with
   | mk kd tx nn ks=>rw[NAt] at hnt;exact hnt.1
  have htc:t.count=1+Tr.counts t.kids:=by cases t with|mk kd tx nn ks=>exact count_mk _ _ _ _
  obtain⟨_,_,_,f3,_⟩:=node_cells hblk;obtain⟨ua,uc,hu⟩:=row_shut hrow;subst hu;have c0:w.cell? ⟨b,0,none⟩=some (.int .i64 (n:Int)):=by rw[cell_of hcn.blk];rfl
  have cf:=frozen_of hcn.blk;have hen:=en90;have hfn:∀ W:World,(binOp .eql 54 (cntV b) .nilFunc).run Tryz.prog W=.ok (.bool false) W:=fun W=>by kernel_rfl
  have HC:=hide (count1_any (nPtr p) b (n:Int) w c0 cf (by omega) (by omega));have HCN:=hide hcn;have HKS:=hide hks;have HROW:=hide hrow;have HRI:=hide hri;have HIH:=hide ih;have HTC:=hide htc
  have HHT:=hide ht;have HBD:=hide hbd;have hpb2:¬ b=p:=fun e=>hpb e.symm;have g3:(w.setCell ⟨b,0,none⟩ (.int .i64 ((n:Int)+1))).cell? ⟨p,3,none⟩=some (.slice ua ps.length uc):=by
   rw[World.cell?_of_block (w:=w) (Below.heap_setCell w ⟨b,0,none⟩ _ p hpb)];exact f3
  rw[hlen] at g3;have HG3:=hide g3;clear c0 cf hcn hks hrow hri ih htc ht hbd hblk hnt f3 hpb hpb2 g3;have hg3:=unhide HG3;go_enter Tryz.func31,Tryz.ntmps31;go_wp2_with fail;refine cm HC.out ?_
  rintro e w1 ⟨rfl,rfl⟩;clear HC;go_wp2_with fail
  go_loopw [23] (fun i wr=>∃ k:Nat,k≤t.kids.length∧i=.int .i64 k∧Cnt b (n+1+Tr.counts (t.kids.take k)) wr∧Ap b w.heap.size w wr) (fun i _=>t.kids.length - (intOf i).toNat)
  case atStart=>exact⟨0,Nat.zero_le _,rfl,by simpa[counts_nil] using HCN.out.set (n+1) (by omega),Ap.setCell (R:=b) (Ap.refl _ _ _) (p:=⟨b,0,none⟩) (Or.inr rfl) _⟩
  case round=>
   obtain⟨k,hk,rfl,hcn,hap⟩:=hrel;have HCK:=hide hcn;have HAK:=hide hap;clear hcn hap
   by_cases hlt:k<t.kids.length
   ·obtain⟨g,cap,hv,hcell⟩:=row_open HROW.out (by omega);simp only[Value.slice.injEq] at hv;obtain⟨rfl,_,rfl⟩:=hv;obtain⟨hkp,hnk⟩:=NAts.get _ _ HKS.out k hlt;have hgb:g≠b:=unhide HRI g rfl
    have hgl:g<w.heap.size:=(own_lt HROW.out g rfl).1;have hck:wr.cell? ⟨g,k,none⟩=some (nPtr ps[k]):=by
     rw[HAK.out.cell (p:=⟨g,k,none⟩) hgl hgb];exact hcell k hkp
    have hnk2:NAt (fun x=>x≠b) wr t.kids[k] ps[k]:=NAt.later (fun x hx hl=>HAK.out.block x hl hx) _ _ hnk;have hle:=counts_le t.kids k hlt;have htk:=counts_take t.kids k hlt;have h1:=unhide HTC
    have h2:=unhide HHT;have h3:=unhide HBD;have htot:Tr.counts (t.kids.take k)+(t.kids[k]).count≤Tr.counts t.kids:=by
     exact zbdn
    have HC:=hide (HIH.out t.kids[k] (by omega) ps[k] (n+1+Tr.counts (t.kids.take k)) wr hnk2 HCK.out (by omega));have HTK:=hide htk;obtain⟨q,hq⟩:∃ q,q=ps[k]:=⟨_,rfl⟩;rw[←hq] at hck HC
    have hki:(k:Int)<(t.kids.length:Int):=by omega
    have hkb:t.kids.length≤100000:=by have:=counts_len t.kids;omega
    clear hcell hnk hnk2 hle htk h1 h2 h3 htot hq;go_wp2_with fail;refine cm HC.out ?_;rintro e w2 ⟨rfl,hc2,ha2⟩;have HC2:=hide hc2;have HA2:=hide (HAK.out.next ha2);clear hc2 ha2 HC hck;go_wp2_with fail
    go_roundw
    case rel=>exact⟨k+1,by omega,by go_num,by rw[HTK.out];have:=unhide HC2;rw[Nat.add_assoc] at this;exact this,HA2.out⟩
    case measure=>simp[intOf];omega
   ·have hk2:k=t.kids.length:=by omega
    subst hk2;go_wp2_with fail
    go_end0
    refine⟨rfl,?_,HAK.out⟩;have:=unhide HCK;rw[List.take_length] at this;rw[HTC.out,←Nat.add_assoc];exact this
end Go.Proofs.YtoimgcjbcbhclaaGreatDoor
