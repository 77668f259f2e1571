/-
  A program's statements, up to the end.
-/
import Derived.Test.YtoimgcjbcbhclaaGreatDoorWt20
import Derived.Recover
import Derived.Defers
set_option maxRecDepth 100000
set_option maxHeartbeats 16000000
namespace Go.Proofs.YtoimgcjbcbhclaaGreatDoor
open Go.RowKit
open zrqk in
theorem program_any {c:Ctx}{F:Fns}(hF:FC c F)(hN:∃ k,FNx c.l k F)(hK:FOk F)(w:World)(r:PR Tr)(hs:progP c.l F=r)(ho:r≠.out)(h:Rdr c w 0 0):Calls Tryz.prog 103 #[rPtr c] w (PPost c w 0 (NV w.heap.size) r):=by
 have hmf:=mf_bound c.R 176
 have HR0:=hide h
 have HE:=hide h.base.ends
 have HL:=hide h.base.len
 have HLO:=hide h.base.size
 obtain⟨i0,hi0,hz0,hz1,hz2⟩:=info_parts info22
 have HA0:=hide (Ap.refl c.R w.heap.size w)
 have HLT:=hide h.rlt
 have HFC:=hide hF
 have HNX:=hide hN
 have HFO:=hide hK
 unfold progP at hs
 have HS:=hide hs
 have HO:=hide ho
 clear h hs ho hF hN hK
 go_enter Tryz.func103,Tryz.ntmps103
 go_wp2_with fail
 go_loopw [3] (fun v wr=>∃ k acc j,(progLoop c.l F k acc j).bind (fun ts i=>PR.ok (codeT (.mk 1 noText 0 ts)) i)=r∧Rdr c wr j 0∧Ap c.R w.heap.size w wr∧KV w.heap.size wr acc v∧acc.length≤j∧∀ t ∈ acc,t.kd=15→∃ v r,t.kids=v::r) (fun _ wr=>c.l.length - nxt c wr)
 case atStart=>exact⟨F.fuel,[],0,HS.out,HR0.out,HA0.out,KV.nil _ _,Nat.zero_le _,fun _ hu=>absurd hu (by simp)⟩
 case round=>
  obtain⟨k,acc,j,hq,hrd,hap,hkv,hle,hex⟩:=hrel;have HEX:=hide hex;clear hex HS HR0 HA0
  cases k with
  | zero=>exact absurd hq.symm HO.out
  | succ k=>
   have hL:=unhide HL;have hjl:=hrd.lt;have HR2:=hide hrd;have HRM:=hide hrd;have HA2:=hide hap;have HK2:=hide hkv;have HLE:=hide hle;have hfl:=fldKind (tkA c.l j)
   by_cases hx:(tkA c.l j).kd=6
   ·have HQ:Hid (PR.ok (codeT (.mk 1 noText 0 acc)) j=r):=by
     unfold progLoop at hq;rw[if_pos hx,bind_ok] at hq;exact hq
    have b6:((tkA c.l j).kd != 6)=false:=by rw[hx];rfl
    have HC:=hide (token_any c wr j 0 hrd);unfold tkV at HC;obtain⟨va,vc,rfl⟩:=hkv.shape;clear hq hrd hap hkv hle hx;exact zrdw
   ·have HQ:Hid ((deepP c.l F.st 0 j).bind (fun t i1=>(progLoop c.l F k (acc++[t]) i1).bind fun ts i=>PR.ok (codeT (.mk 1 noText 0 ts)) i)=r):=by
     unfold progLoop at hq;rw[if_neg hx] at hq;rw[←hq]
     cases deepP c.l F.st 0 j <;> rfl
    have b6:((tkA c.l j).kd != 6)=true:=bne_iff_ne.2 hx;have HC:=hide (token_any c wr j 0 hrd);unfold tkV at HC;clear hq hrd hap hkv hle hx
    cases hr:deepP c.l F.st 0 j with
    | out=>
     exact zbgo
    | bad er p=>
     have HRR:=hide hr;rw[hr] at HQ;simp only[bind_bad] at HQ;clear hr;go_wp2_with fail;refine cm HC.out ?_;rintro e w3 ⟨rfl,hb3⟩;have HA3:=hide (HA2.out.next (Ap.of hb3))
     have HR3:=hide (HR2.out.later hb3);clear hb3 HC HA2 HR2;have HC:=hide (deepS HFC.out w3 0 j HR3.out (by rw[HRR.out];nofun))
     exact zbgf
    | ok t j2=>
     have HRR:=hide hr;rw[hr] at HQ;simp only[bind_ok] at HQ;clear hr;go_wp2_with fail;refine cm HC.out ?_;rintro e w3 ⟨rfl,hb3⟩;have HA3:=hide (HA2.out.next (Ap.of hb3));have HR3:=hide (HR2.out.later hb3)
     have HK3:=hide (KV.later HK2.out (Ap.of hb3) HLT.out);clear hb3 HC HA2 HR2 HK2;have HC:=hide (deepS HFC.out w3 0 j HR3.out (by rw[HRR.out];nofun))
     rw[HRR.out] at HC;exact zrda
theorem catch_idle (p q:Addr)(w:World) :
  CallsD Tryz.prog 101 #[.pointer (some p),.pointer (some q)] .returning w fun e u' w'=>e=.returned (.tuple #[])∧u'=.returning∧w'=w:=by
 refine callsD_of_wpS Tryz.func101 rfl fun c₀ cs hu=>?_
 apply wpS_seq
 apply wpS_region
 simp[wpOpsS,go_sem,recoverD,hu,Tryz.ntmps101,Exit.thenS]
 apply wpS_seq
 apply wpS_seq
 apply wpS_region
 simp[wpOpsS,go_sem,Exit.thenS]
 refine wpS_cond (t:=true) (by simp[Act.eval,Array.replicate]) ?_
 simp only[if_true]
 refine wpS_of_wp ?_
 refine wp_ret ?_
 cases c₀
 simp_all [bodyPostS,results,Tryz.results101,Exit.thenS]
theorem catch_fault (p q:Nat)(er:Int)(pl:Nat)(w:World)(a b:Value)(hp:w.cell? ⟨p,0,none⟩=some a)(hpf:∀ o,w.frozen? ⟨p,o,none⟩=false)(hq:w.cell? ⟨q,0,none⟩=some b)(hqf:∀ o,w.frozen? ⟨q,o,none⟩=false)(hqp:¬ q=p)(hpl:p<w.heap.size)(hql:q<w.heap.size) :
  CallsD Tryz.prog 101 #[.pointer (some ⟨p,0,none⟩),.pointer (some ⟨q,0,none⟩)] (.panicking (faultV er pl)) w fun e u' w'=>
   e=.returned (.tuple #[])∧u'=.panicking [{ v:=.iface 142 (.agg #[.int .i64 er,.int .i64 (pl:Int)]),recovered:=true }]∧w'=((((w.setCell ⟨p,0,none⟩ (.pointer none)).setCell ⟨q,0,none⟩ (.iface 144 (.pointer (some ⟨w.heap.size+1,0,none⟩)))).alloc (.cells #[.int .i64 er,.int .i64 (pl:Int)] 142)).alloc (.cells #[.int .i64 er,.int .i64 (pl:Int)] 145)).drew:=by
 refine callsD_of_wpS Tryz.func101 rfl fun c₀ cs hu=>?_
 unfold faultV at hu
 have ta:∀ W:World,(Instr.typeAssert (.iface 142 (.agg #[.int .i64 er,.int .i64 (pl:Int)])) 20 142 true).run Tryz.prog W=.ok (.tuple #[.agg #[.int .i64 er,.int .i64 (pl:Int)],.bool true]) W:=fun W=>by kernel_rfl
 rw[Tryz.ntmps101]
 rw[show (#[.pointer (some ⟨p,0,none⟩),.pointer (some ⟨q,0,none⟩)]:Array Value)++Array.replicate (23 - (#[.pointer (some ⟨p,0,none⟩),.pointer (some ⟨q,0,none⟩)]:Array Value).size) undef=#[.pointer (some ⟨p,0,none⟩),.pointer (some ⟨q,0,none⟩),undef,undef,undef,undef,undef,undef,undef,undef,undef,undef,undef,undef,undef,undef,undef,undef,undef,undef,undef,undef,undef] from by kernel_rfl]
 apply wpS_seq
 apply wpS_region
 simp[wpOpsS,go_sem,recoverD,hu,Exit.thenS]
 apply wpS_seq
 apply wpS_seq
 apply wpS_region
 simp[wpOpsS,go_sem,Exit.thenS]
 refine wpS_cond (t:=false) (by simp[Act.eval]) ?_
 simp only[Bool.false_eq_true,if_false]
 refine wpS_of_wp (wp_skip ?_)
 simp only[Exit.thenS]
 apply wpS_seq
 apply wpS_region
 simp[wpOpsS,go_sem,Exit.thenS,ta]
 apply wpS_seq
 refine wpS_of_wp ?_
 go_wp2_with fail
 simp only[Exit.thenS]
 refine wpS_of_wp ?_
 go_region
 simp[bodyPostS,results,Tryz.results101]
def RdPost (r:PR Tr)(w:World)(e:Ending)(w':World):Prop:=
 match r with
 | .ok t _=>∃ p,e=.returned (.tuple #[nPtr p,.nilIface])∧NAt (From w.heap.size) w' t p∧Below w.heap.size w w'
 | .bad er pl=>∃ b,e=.returned (.tuple #[.pointer none,.iface 144 (.pointer (some ⟨b,0,none⟩))])∧w'.heap[b]? = some (.cells #[.int .i64 er,.int .i64 (pl:Int)] 145 (0,0))∧w.heap.size≤b∧Below w.heap.size w w'
 | .out=>True
abbrev RW (w:World):World:=(w.alloc (.cells #[.pointer none] 22)).alloc (.cells #[.nilIface] 28)
section
variable (w:World) (l:List Tk) (tb cap:Nat)
include w l tb cap
open zrql in
theorem read_ok (t:Tr)(j:Nat)(HN:Calls Tryz.prog 102 #[.slice (some ⟨tb,0,none⟩) l.length cap] (RW w) fun e w'=>∃ c:Ctx,e=.returned (rPtr c)∧c.l=l∧(RW w).heap.size≤c.R∧Rdr c w' 0 0∧Below (RW w).heap.size (RW w) w')(HP:∀ (c:Ctx) (W:World),c.l=l→Rdr c W 0 0→Calls Tryz.prog 103 #[rPtr c] W (PPost c W 0 (NV W.heap.size) (.ok t j))) :
  Calls Tryz.prog 43 #[.slice (some ⟨tb,0,none⟩) l.length cap] w (RdPost (.ok t j) w):=by
 exact zrea
open zrqm in
theorem read_bad (er:Int)(pl:Nat)(HN:Calls Tryz.prog 102 #[.slice (some ⟨tb,0,none⟩) l.length cap] (RW w) fun e w'=>∃ c:Ctx,e=.returned (rPtr c)∧c.l=l∧(RW w).heap.size≤c.R∧Rdr c w' 0 0∧Below (RW w).heap.size (RW w) w')(HP:∀ (c:Ctx) (W:World),c.l=l→Rdr c W 0 0→Calls Tryz.prog 103 #[rPtr c] W (PPost c W 0 (NV W.heap.size) (.bad er pl))) :
  Calls Tryz.prog 43 #[.slice (some ⟨tb,0,none⟩) l.length cap] w (RdPost (.bad er pl) w):=by
 exact zrea
end
theorem params_at {c:Ctx}{F:Fns}(w:World)(d i:Nat)(ho:paramsP c.l F i≠.out)(h:Rdr c w i d):Calls Tryz.prog 245 #[rPtr c] w (PPost c w d (NV w.heap.size) (paramsP c.l F i)):=
 params_any (F:=F) w d i _ rfl ho h
section
variable {c:Ctx} {F:Fns} (hF:FC c F) (hN:∃ k,FNx c.l k F) (hK:FOk F)
include c F hF hN hK
open zrqt in
theorem func_any:Does c 164 NV (funcP c.l F):=by
 intro w d i r hs ho h
 have HR0:=hide h
 have HA0:=hide (Ap.refl c.R w.heap.size w)
 have HLT:=hide h.rlt
 unfold funcP funcTail at hs
 have HS:=hide hs
 have HO:=hide ho
 clear h hs ho
 go_enter Tryz.func164,Tryz.ntmps164
 exact zeak
open zrqu in
theorem lambda_any:Does c 173 NV (lambdaP c.l F):=by
 intro w d i r hs ho h
 have HR0:=hide h
 have HA0:=hide (Ap.refl c.R w.heap.size w)
 have HLT:=hide h.rlt
 unfold lambdaP funcTail at hs
 have HS:=hide hs
 have HO:=hide ho
 clear h hs ho
 go_enter Tryz.func173,Tryz.ntmps173
 exact zeak
end
open zrqw in
theorem st_some {c:Ctx}(f:Nat)(hen:∀ args W,(callFunc f args).run Tryz.prog W=.ok (.enter f args) W)(w:World)(d i:Nat)(r:PR Tr)(ho:r≠.out)(q:Nat)(hq:look2 stKeys (fx c.l i)=some q)(hf:stFn q=f)(hp:∀ W,Rdr c W i d→Calls Tryz.prog f #[rPtr c] W (PPost c W d (NV W.heap.size) r))(h:Rdr c w i d) :
  Calls Tryz.prog 176 #[rPtr c] w (PPost c w d (NV w.heap.size) r):=by
 have HL:Hid (∀ W:World,Rdr c W i d→(Instr.lookup 201 (.map (some c.mT)) (.string (fx c.l i)) true).run Tryz.prog W=.ok (.tuple #[.func (.func f) #[.pointer (some ⟨c.R,0,none⟩)] #[],.bool true]) W):=fun W hW=>by
  have:=look_stms c (fx c.l i) W hW.base.stms;rw[hq] at this;simp only[stVO,hf] at this;exact this
 have HR0:=hide h
 have HA0:=hide (Ap.refl c.R w.heap.size w)
 have HP:=hide hp
 have HLT:=hide h.rlt
 have HO:=hide ho
 clear h ho hq hf hp
 exact zrdq
open zrqv in
theorem st_none {c:Ctx}{F:Fns}(hF:FC c F)(w:World)(d i:Nat)(r:PR Tr)(hs:exprP c.l F d i=r)(ho:r≠.out)(hq:look2 stKeys (fx c.l i)=none)(h:Rdr c w i d):Calls Tryz.prog 176 #[rPtr c] w (PPost c w d (NV w.heap.size) r):=by
 have hmf:=mf_bound c.R 243
 have HL:Hid (∀ W:World,Rdr c W i d→(Instr.lookup 201 (.map (some c.mT)) (.string (fx c.l i)) true).run Tryz.prog W=.ok (.tuple #[.nilFunc,.bool false]) W):=fun W hW=>by
  have:=look_stms c (fx c.l i) W hW.base.stms;rw[hq] at this;exact this
 clear hq
 have HR0:=hide h
 have HA0:=hide (Ap.refl c.R w.heap.size w)
 have HLT:=hide h.rlt
 unfold exprP at hs
 have HS:=hide hs
 have HO:=hide ho
 clear h hs ho
 exact zrdq
theorem madeN {c:Ctx}{w W:World}{j d:Nat}(hR:Rdr c W j d)(hA:Ap c.R w.heap.size w W)(kd:Int)(tx:ByteArray)(n:Int)(q:Nat)(hq:q=W.heap.size) :
  NV w.heap.size (W.alloc (nodeObj kd tx n (.slice none 0 0))) (.mk kd tx n []) (nPtr q)∧Rdr c (W.alloc (nodeObj kd tx n (.slice none 0 0))) j d∧Ap c.R w.heap.size w (W.alloc (nodeObj kd tx n (.slice none 0 0))):=by
 subst hq
 exact⟨(EV.new (KV.nil _ _) hA.size kd tx n).nv,hR.alloc _,hA.alloc hA.size _⟩
theorem stepped {c:Ctx}{w W:World}{i d:Nat}(hR:Rdr c W i d)(hA:Ap c.R w.heap.size w W)(hj:i+1<c.l.length) :
  Rdr c (W.setCell ⟨c.R,1,none⟩ (.int .i64 ((i:Int)+1))) (i+1) d∧Ap c.R w.heap.size w (W.setCell ⟨c.R,1,none⟩ (.int .i64 ((i:Int)+1))):=
 ⟨hR.go2 (i+1) hj (by omega),hA.setCell (p:=⟨c.R,1,none⟩) (Or.inr rfl) _⟩
open zrqbc in
theorem al_some {c:Ctx}(f:Nat)(hen:∀ args W,(callFunc f args).run Tryz.prog W=.ok (.enter f args) W)(w:World)(d i:Nat)(r:PR Tr)(ho:r≠.out)(q:Nat)(hq:look2 vlKeys (fx c.l i)=some q)(hf:vlFn q=f)(hp:∀ W,Rdr c W i d→Calls Tryz.prog f #[rPtr c] W (PPost c W d (NV W.heap.size) r))(h:Rdr c w i d) :
  Calls Tryz.prog 311 #[rPtr c] w (PPost c w d (NV w.heap.size) r):=by
 have HL:Hid (∀ W:World,Rdr c W i d→(Instr.lookup 201 (.map (some c.mV)) (.string (fx c.l i)) true).run Tryz.prog W=.ok (.tuple #[.func (.func f) #[.pointer (some ⟨c.R,0,none⟩)] #[],.bool true]) W):=fun W hW=>by
  have:=look_vals c (fx c.l i) W hW.base.vals;rw[hq] at this;simp only[vlVO,hf] at this;exact this
 have HR0:=hide h
 have HA0:=hide (Ap.refl c.R w.heap.size w)
 have HP:=hide hp
 have HLT:=hide h.rlt
 have HO:=hide ho
 clear h ho hq hf hp
 exact zrbi
open zrqbb in
theorem al_sign {c:Ctx}(w:World)(d i:Nat)(x:Sg)(hq:look2 vlKeys (fx c.l i)=none)(hsg:sgP 0 (fx c.l i)=some x)(h:Rdr c w i d):Calls Tryz.prog 311 #[rPtr c] w (PPost c w d (NV w.heap.size) (.ok (.mk x.kd noText 0 []) (i+1))):=by
 exact zrbt
section
variable {c:Ctx} (w:World) (d i:Nat) (hq:look2 vlKeys (fx c.l i)=none) (hsg:sgP 0 (fx c.l i)=none)
include c w d i hq hsg
open zrqx in
theorem al_name (hk:(tkA c.l i).kd=1)(h:Rdr c w i d):Calls Tryz.prog 311 #[rPtr c] w (PPost c w d (NV w.heap.size) (.ok (.mk 23 (tkA c.l i).tx 0 []) (i+1))):=by
 exact zrbt
open zrqy in
theorem al_str (hk:(tkA c.l i).kd=4)(h:Rdr c w i d):Calls Tryz.prog 311 #[rPtr c] w (PPost c w d (NV w.heap.size) (.ok (.mk 18 (tkA c.l i).tx 0 []) (i+1))):=by
 exact zrbt
open zrqz in
theorem al_num (hk:(tkA c.l i).kd=3)(h:Rdr c w i d):Calls Tryz.prog 311 #[rPtr c] w (PPost c w d (NV w.heap.size) (.ok (.mk 17 noText (tkA c.l i).n []) (i+1))):=by
 exact zrbt
open zrqba in
theorem al_bad (h1:(tkA c.l i).kd≠1)(h4:(tkA c.l i).kd≠4)(h3:(tkA c.l i).kd≠3)(h:Rdr c w i d):Calls Tryz.prog 311 #[rPtr c] w (PPost c w d (NV w.heap.size) (.bad 3 (tkA c.l i).pl)):=by
 exact zrbt
end
theorem en135:∀ args W,(callFunc 171 args).run Tryz.prog W=.ok (.enter 171 args) W:=fun _ _=>by kernel_rfl
theorem en136:∀ args W,(callFunc 172 args).run Tryz.prog W=.ok (.enter 172 args) W:=fun _ _=>by kernel_rfl
theorem en137:∀ args W,(callFunc 173 args).run Tryz.prog W=.ok (.enter 173 args) W:=fun _ _=>by kernel_rfl
theorem vl_lt {s:ByteArray}{q:Nat}(h:look2 vlKeys s=some q):q<3:=by
 unfold look2 at h
 cases hf:vlKeys.find? (fun e=>decide (s=e.1)) with
 | none=>rw[hf] at h;cases h
 | some e=>
  rw[hf] at h;have hm:=List.mem_of_find?_eq_some hf;simp only[Option.map_some,Option.some.injEq] at h;subst h;simp only[vlKeys,List.mem_cons,List.not_mem_nil,or_false] at hm
  rcases hm with rfl|rfl|rfl <;> decide
theorem alone_any {c:Ctx}{F:Fns}(hF:FC c F)(hN:∃ k,FNx c.l k F)(hK:FOk F):Does c 311 NV (aloneP c.l F):=by
 intro w d i r hs ho h
 unfold aloneP at hs
 cases hq:look2 vlKeys (fx c.l i) with
 | some q=>
  have hlt:=vl_lt hq;have h3:q=0∨q=1∨q=2:=by omega
  rw[hq] at hs
  rcases h3 with rfl|rfl|rfl
  ·exact al_some 171 en135 w d i r ho 0 hq rfl (fun W hW=>inPar_any hF W d i r hs ho hW) h
  ·exact al_some 172 en136 w d i r ho 1 hq rfl (fun W hW=>object_any hF hN W d i r hs ho hW) h
  ·exact al_some 173 en137 w d i r ho 2 hq rfl (fun W hW=>lambda_any hF hN hK W d i r hs ho hW) h
 | none=>
  rw[hq] at hs;simp only at hs
  cases hg:sgP 0 (fx c.l i) with
  | some x=>
   rw[hg] at hs;subst hs;exact al_sign w d i x hq hg h
  | none=>
   rw[hg] at hs;simp only at hs
   by_cases h1:(tkA c.l i).kd=1
   ·rw[if_pos h1] at hs;subst hs;exact al_name w d i hq hg h1 h
   ·by_cases h4:(tkA c.l i).kd=4
    ·rw[if_neg h1,if_pos h4] at hs;subst hs;exact al_str w d i hq hg h4 h
    ·by_cases h3:(tkA c.l i).kd=3
     ·rw[if_neg h1,if_neg h4,if_pos h3] at hs;subst hs;exact al_num w d i hq hg h3 h
     ·rw[if_neg h1,if_neg h4,if_neg h3] at hs;subst hs;exact al_bad w d i hq hg h1 h4 h3 h
theorem behind_any {c:Ctx}{F:Fns}(hF:FC c F)(w:World)(d i:Nat)(r:PR Tr)(hk:(tkA c.l i).kd≠6)(hs:behindP c.l F d i=r)(ho:r≠.out)(h:Rdr c w i d):Calls Tryz.prog 168 #[rPtr c] w (PPost c w d (EV w.heap.size) r):=by
 have hmf:=mf_bound c.R 176
 have HKD:=hide hk
 clear hk
 have HR0:=hide h
 have HA0:=hide (Ap.refl c.R w.heap.size w)
 have HLT:=hide h.rlt
 unfold behindP at hs
 have HS:=hide hs
 have HO:=hide ho
 clear h hs ho
 go_enter Tryz.func168,Tryz.ntmps168
 have HC:=hide (kind_any c w i d HR0.out HKD.out)
 go_wp2_with fail
 refine cm HC.out ?_
 rintro e wk ⟨rfl,hrk,hak⟩
 clear HC
 have HRk:=hide hrk
 have HAk:=hide (HA0.out.next hak)
 clear hrk hak HR0 HA0
 cases hr:inParP c.l F d (i+1) with
 | out=>
  exact zbal
 | bad er p=>
  have HC:=hide (inPar_any hF wk d (i+1) _ rfl (by rw[hr];nofun) HRk.out)
  exact zbft
 | ok x1 j1=>
  have HC:=hide (inPar_any hF wk d (i+1) _ rfl (by rw[hr];nofun) HRk.out)
  rw[hr] at HC HS;simp only[bind_ok] at HS;clear hr;go_wp2_with fail;refine cm HC.out ?_;intro e w1 hp;obtain⟨⟨v1,rfl,p1,rfl,hn1⟩,hrd,ha⟩:=hp;clear HC;have HA1:=hide (HAk.out.next ha)
  have HR1:=hide hrd;have HN1:=hide (nat_mono hn1 HAk.out.size);clear hn1;clear hrd ha HAk HRk
  cases hr:deepP c.l F.st d j1 with
  | out=>
   exact zbal
  | bad er p=>
   have HC:=hide (deepS hF w1 d j1 HR1.out (by rw[hr];nofun))
   exact zbcn
  | ok x2 j2=>
   have HC:=hide (deepS hF w1 d j1 HR1.out (by rw[hr];nofun))
   rw[hr] at HC HS;simp only[bind_ok] at HS;clear hr;go_wp2_with fail;refine cm HC.out ?_;intro e w2 hp;obtain⟨⟨v2,rfl,p2,rfl,hn2⟩,hrd,ha⟩:=hp;clear HC;have HA2:=hide (HA1.out.next ha)
   have HR2:=hide hrd;replace HN1:=hide (nats_pair HN1.out ha HLT.out HA1.out.size hn2);clear hn2;clear hrd ha HA1 HR1
   have HC:=hide (node_any (hdKind (tkA c.l i).tx) noText (.slice (some ⟨w2.heap.size,0,none⟩) 2 2) (w2.alloc (.cells #[nPtr p1,nPtr p2] 22)) ⟨_,_,_,rfl⟩);go_wp2_with fail;refine cm HC.out ?_
   rintro e wn ⟨rfl,rfl⟩;clear HC;go_wp2_with fail;go_ret;obtain⟨m1,m2,m3⟩:=made HR2.out HA2.out HN1.out (by simp[maxLen]) #[nPtr p1,nPtr p2] rfl 2 rfl (hdKind (tkA c.l i).tx) noText (w2.heap.size+1) rfl
   exact ppOk HS.out.symm m1 m2 m3
theorem c113 {b:Nat}{w1:World}{v0 v1 v2 v3:Value}(p0:w1.heap[b]? = some (.cells #[v0,v1,v2,v3] 138)):C160 b w1 v0 v1 v2 v3:=
 ⟨by rw[cell_of p0];rfl,by rw[cell_of p0];rfl,by rw[cell_of p0];rfl,by rw[cell_of p0];rfl,frozen_of p0,lt_of_heap p0⟩
open zrqbd in
theorem value_any {c:Ctx}{F:Fns}(hF:FC c F):Does c 243 NV (valueP c.l F):=by
 have hmf:=mf_bound c.R 243
 intro w d i r hs ho h
 have HR0:=hide h
 have HA0:=hide (Ap.refl c.R w.heap.size w)
 have HLT:=hide h.rlt
 unfold valueP at hs
 have HS:=hide hs
 have HO:=hide ho
 clear h hs ho
 go_enter Tryz.func243,Tryz.ntmps243
 have HC:=hide (token_any c w i d HR0.out)
 unfold tkV at HC
 go_wp2_with fail
 refine cm HC.out ?_
 rintro e wt ⟨rfl,hbwt⟩
 clear HC
 have HAwt:=hide (HA0.out.next (Ap.of hbwt))
 have HRwt:=hide (HR0.out.later hbwt)
 clear hbwt HR0
 exact zrbo
theorem sg2 {s:ByteArray}{x:Sg}(h:sgP 2 s=some x):2≤x.str∧x.str≤7:=by
 unfold sgP at h
 cases hf:sgOf s with
 | none=>rw[hf] at h;cases h
 | some y=>
  rw[hf] at h;have hm:=List.mem_of_find?_eq_some hf;have hy:y=x∧(y.parts==2)=true:=by
   simp only[Option.filter] at h
   split at h
   ·exact⟨Option.some.inj h,by assumption⟩
   ·
    cases h
  obtain⟨rfl,hp⟩:=hy;simp only[sgs,List.mem_cons,List.not_mem_nil,or_false] at hm
  rcases hm with rfl|rfl|rfl|rfl|rfl|rfl|rfl|rfl|rfl|rfl|rfl|rfl|rfl|rfl <;> first|decide | (exact absurd hp (by decide))
theorem behindSign {c:Ctx}{w ws:World}{i d:Nat}(x:Sg)(hR:Rdr c ws i d)(hA:Ap c.R w.heap.size w ws)(hi:i+1<c.l.length) :
  Rdr c ((ws.setCell ⟨c.R,1,none⟩ (.int .i64 ((i:Int)+1))).alloc (.cells #[.string x.tx,.int .i64 x.kd,.int .i64 x.parts,.int .i64 x.str] 189)).drew (i+1) d∧Ap c.R w.heap.size w ((ws.setCell ⟨c.R,1,none⟩ (.int .i64 ((i:Int)+1))).alloc (.cells #[.string x.tx,.int .i64 x.kd,.int .i64 x.parts,.int .i64 x.str] 189)).drew ∧
  ((ws.setCell ⟨c.R,1,none⟩ (.int .i64 ((i:Int)+1))).alloc (.cells #[.string x.tx,.int .i64 x.kd,.int .i64 x.parts,.int .i64 x.str] 189)).drew.heap[ws.heap.size]? = some (.cells #[.string x.tx,.int .i64 x.kd,.int .i64 x.parts,.int .i64 x.str] 189):=by
 obtain⟨h1,h2⟩:=stepped hR hA hi
 refine⟨(h1.alloc _).drew,(h2.alloc h2.size _).drew,?_⟩
 have:=heap_new (ws.setCell ⟨c.R,1,none⟩ (.int .i64 ((i:Int)+1))) (.cells #[.string x.tx,.int .i64 x.kd,.int .i64 x.parts,.int .i64 x.str] 189)
 rw[World.size_setCell] at this
 exact this
section
variable {c:Ctx} {F:Fns}
include c F
theorem single_none (hQ:Does c 303 NV (askedP c.l F))(w:World)(d i:Nat)(r:PR Tr)(hsg:sgP 1 (fx c.l i)=none)(hs:askedP c.l F d i=r)(ho:r≠.out)(h:Rdr c w i d):Calls Tryz.prog 292 #[rPtr c] w (PPost c w d (NV w.heap.size) r):=by
 have HSG:=hide hsg
 clear hsg
 have HR0:=hide h
 have HA0:=hide (Ap.refl c.R w.heap.size w)
 have HLT:=hide h.rlt
 have HS:=hide hs
 have HO:=hide ho
 clear h hs ho
 go_enter Tryz.func292,Tryz.ntmps292
 have HC:=hide (sign_any c 1 w i d HR0.out)
 rw[HSG.out] at HC
 simp only[sgVO,noSg,Option.isSome] at HC
 go_wp2_with fail
 refine cm HC.out ?_
 rintro e ws ⟨rfl,hbws⟩
 clear HC
 have HAws:=hide (HA0.out.next (Ap.of hbws))
 have HRws:=hide (HR0.out.later hbws)
 clear hbws HR0 HA0
 have HAs2:=hide (HAws.out.alloc HAws.out.size (.cells #[.string ⟨#[]⟩,.int .i64 0,.int .i64 0,.int .i64 0] 189))
 have HRs2:=hide (HRws.out.alloc (.cells #[.string ⟨#[]⟩,.int .i64 0,.int .i64 0,.int .i64 0] 189))
 cases hr:askedP c.l F d i with
 | out=>
  rw[hr] at HS;exact absurd HS.out.symm HO.out
 | bad er p=>
  have HC:=hide (hQ (ws.alloc (.cells #[.string ⟨#[]⟩,.int .i64 0,.int .i64 0,.int .i64 0] 189)) d i _ rfl (by rw[hr];nofun) HRs2.out)
  rw[hr] at HC HS;clear hr;go_wp2_with fail;refine cm HC.out ?_;intro e w' hp;obtain⟨rfl,ha⟩:=hp;exact⟨rfl,ppBad HS.out.symm (HAs2.out.next ha)⟩
 | ok x1 j1=>
  have HC:=hide (hQ (ws.alloc (.cells #[.string ⟨#[]⟩,.int .i64 0,.int .i64 0,.int .i64 0] 189)) d i _ rfl (by rw[hr];nofun) HRs2.out)
  rw[hr] at HC HS;clear hr;go_wp2_with fail;refine cm HC.out ?_;intro e w1 hp;obtain⟨⟨v1,rfl,p1,rfl,hn1⟩,hrd,ha⟩:=hp;clear HC;have HA1:=hide (HAs2.out.next ha);have HR1:=hide hrd
  have HN1:=hide (nat_mono hn1 HAs2.out.size);clear hn1;clear hrd ha HAs2 HRs2;go_wp2_with fail;go_ret;exact ppOk HS.out.symm ⟨p1,rfl,HN1.out⟩ HR1.out HA1.out
open zrqbe in
theorem single_some (hF:FC c F)(w:World)(d i:Nat)(x:Sg)(r:PR Tr)(hsg:sgP 1 (fx c.l i)=some x)(hs:((deepP c.l F.sg d (i+1)).bind fun t i1=>PR.ok (.mk x.kd noText 0 [t]) i1)=r)(ho:r≠.out)(h:Rdr c w i d):Calls Tryz.prog 292 #[rPtr c] w (PPost c w d (NV w.heap.size) r):=by
 have hmf:=mf_bound c.R 292
 have HSG:=hide hsg
 have hi:=sgP_lt h.base.ends h.lt hsg
 have hL:=h.base.len
 clear hsg
 have HR0:=hide h
 have HA0:=hide (Ap.refl c.R w.heap.size w)
 have HLT:=hide h.rlt
 have HS:=hide hs
 have HO:=hide ho
 clear h hs ho
 go_enter Tryz.func292,Tryz.ntmps292
 have HC:=hide (sign_any c 1 w i d HR0.out)
 rw[HSG.out] at HC
 simp only[sgVO,sgV,Option.isSome] at HC
 go_wp2_with fail
 refine cm HC.out ?_
 rintro e ws ⟨rfl,hbws⟩
 clear HC
 have HAws:=hide (HA0.out.next (Ap.of hbws))
 have HRws:=hide (HR0.out.later hbws)
 have hc1:=HRws.out.c1
 have hcz:=HRws.out.fz
 have hcl:=HRws.out.rlt
 obtain⟨hx1,hx2,hx3⟩:=behindSign x HRws.out HAws.out hi
 have HX1:=hide hx1
 have HX2:=hide hx2
 have HX3:=hide hx3
 have HTL:Hid (c.R<ws.heap.size):=hcl
 clear hbws hx1 hx2 hx3 HRws HAws HR0 HA0
 cases hr:deepP c.l F.sg d (i+1) with
 | out=>
  exact zbal
 | bad er p=>
  have HC:=hide (deepG hF ((ws.setCell ⟨c.R,1,none⟩ (.int .i64 ((i:Int)+1))).alloc (.cells #[.string x.tx,.int .i64 x.kd,.int .i64 x.parts,.int .i64 x.str] 189)).drew d (i+1) HX1.out (by rw[hr];nofun))
  rw[hr] at HC HS;simp only[bind_bad] at HS;exact zrdl
 | ok t j=>
  have HC:=hide (deepG hF ((ws.setCell ⟨c.R,1,none⟩ (.int .i64 ((i:Int)+1))).alloc (.cells #[.string x.tx,.int .i64 x.kd,.int .i64 x.parts,.int .i64 x.str] 189)).drew d (i+1) HX1.out (by rw[hr];nofun))
  rw[hr] at HC HS;simp only[bind_ok] at HS;clear hr;exact zrdo
theorem single_any (hF:FC c F)(hQ:Does c 303 NV (askedP c.l F)):Does c 292 NV (singleP c.l F):=by
 intro w d i r hs ho h
 unfold singleP at hs
 cases hg:sgP 1 (fx c.l i) with
 | none=>rw[hg] at hs;exact single_none hQ w d i r hg hs ho h
 | some x=>rw[hg] at hs;exact single_some hF w d i x r hg hs ho h
end
open zrqbf in
theorem pair_any {c:Ctx}{F:Fns}(hF:FC c F)(hN:∃ k,FNx c.l k F)(b:Int)(w:World)(d i:Nat)(r:PR Tr)(hs:pairP c.l F b d i=r)(ho:r≠.out)(h:Rdr c w i d):Calls Tryz.prog 281 #[rPtr c,.int .i64 b] w (PPost c w d (NV w.heap.size) r):=by
 have HE:=hide h.base.ends
 have HL:=hide h.base.len
 have HNX:=hide hN
 have HFC:=hide hF
 clear hN
 have HR0:=hide h
 have HA0:=hide (Ap.refl c.R w.heap.size w)
 have HLT:=hide h.rlt
 unfold pairP at hs
 have HS:=hide hs
 have HO:=hide ho
 clear h hs ho
 go_enter Tryz.func281,Tryz.ntmps281
 cases hr:F.sg d i with
 | out=>
  exact zbal
 | bad er p=>
  have HC:=hide (hF.sg w d i _ rfl (by rw[hr];nofun) HR0.out)
  exact zbax
 | ok x1 j1=>
  have HC:=hide (hF.sg w d i _ rfl (by rw[hr];nofun) HR0.out)
  rw[hr] at HC HS;simp only[bind_ok] at HS;exact zrdg
structure Open (B:Nat)(w:World)(t:Tr)(p:Nat)(u:Value)(ps:List Nat):Prop where
 low:B≤p
 blk:w.heap[p]? = some (nodeObj t.kd t.tx t.n u)
 row:w.ownsRow B 22 1 u ps.length (ps.map nPtr)
 own:u.ownBlock≠some p
 kids:NAts (fun b=>B≤b∧b≠p∧u.ownBlock≠some b) w t.kids ps
theorem EV.opens {B:Nat}{w:World}{t:Tr}{v:Value}(h:EV B w t v):∃ p u ps,v=nPtr p∧Open B w t p u ps:=by
 obtain⟨p,u,ps,rfl,h1,h2,h3,h4,h5⟩:=h
 exact⟨p,u,ps,rfl,h1,h2,h3,h4,h5⟩
theorem Open.ev {B:Nat}{w:World}{t:Tr}{p:Nat}{u:Value}{ps:List Nat}(h:Open B w t p u ps):EV B w t (nPtr p):=⟨p,u,ps,rfl,h.low,h.blk,h.row,h.own,h.kids⟩
theorem Open.later {c:Ctx}{B:Nat}{w w':World}{t:Tr}{p:Nat}{u:Value}{ps:List Nat}(h:Open B w t p u ps)(ha:Ap c.R w.heap.size w w')(hB:c.R<B):Open B w' t p u ps:=
 ⟨h.low,by rw[ha.block p (lt_of_heap h.blk) (by have:=h.low;omega)];exact h.blk,owns_stay (I:=fun b=>B≤b) (Stay.of_ap ha hB fun _ h=>h) (fun g hg=>(own_lt h.row g hg).2) h.row,h.own,NAts.later (Stay.of_ap ha hB fun _ h=>h.1) _ _ h.kids⟩
section
variable {B:Nat} {w:World} {t:Tr} {p:Nat} {u:Value} {ps:List Nat} (h:Open B w t p u ps)
include B w t p u ps h
theorem Open.cell:w.cell? ⟨p,3,none⟩=some u∧(∀ o,w.frozen? ⟨p,o,none⟩=false)∧p<w.heap.size:=
 ⟨(node_cells h.blk).2.2.2.1,(node_cells h.blk).2.2.2.2,lt_of_heap h.blk⟩
theorem Open.shape:∃ a cap,u=.slice a t.kids.length cap:=by
 rw[←NAts.length _ _ h.kids];exact row_shut h.row
end
theorem Open.apart {c:Ctx}{B:Nat}{w w1:World}{t:Tr}{p:Nat}{u:Value}{ps:List Nat}(h:Open B w t p u ps)(hB:B≤w.heap.size)(ha:Ap c.R w.heap.size w w1)(hR:c.R<B){us:List Tr}{qs:List Nat}(hn:NAts (From w.heap.size) w1 us qs) :
  NAts (fun b=>B≤b∧b≠p∧u.ownBlock≠some b) w1 (t.kids++us) (ps++qs):=
 NAts.append (M:=w.heap.size) _ _ (NAts.mono (fun b hb _=>by
  have h1:w.heap.size≤b:=hb;have h2:=lt_of_heap h.blk;exact⟨⟨by omega,by omega,fun e=>by have:=(own_lt h.row b e).1;omega⟩,h1⟩) _ _ hn)
  (NAts.later (I:=fun b=>(B≤b∧b≠p∧u.ownBlock≠some b)∧b<w.heap.size) (Stay.of_ap ha hR fun _ h=>h.1.1) _ _ (NAts.mono (fun _ hb hl=>⟨hb,hl⟩) _ _ h.kids))
theorem ev_push {B:Nat}{w0 w3:World}{kd n:Int}{tx:ByteArray}{ts us:List Tr}{ps qs:List Nat}{p g m cap:Nat}{u:Value}(hB:B≤p)(hb:w0.heap[p]? = some (nodeObj kd tx n u))(hu:u.ownBlock≠some p)
  (hk:NAts (fun b=>B≤b∧b≠p∧u.ownBlock≠some b) w0 (ts++us) (ps++qs))
  (hown:w3.ownsRow B 22 1 (.slice (some ⟨g,0,none⟩) m cap) m ((ps++qs).map nPtr)) (hm:m=(ps++qs).length) (hgr:w0.grownBy w3 u.ownBlock) (hg:u.ownBlock=some g∨g=w0.heap.size) :
  EV B (w3.setCell ⟨p,3,none⟩ (.slice (some ⟨g,0,none⟩) m cap)) (.mk kd tx n (ts++us)) (nPtr p):=by
 subst hm
 have hlt:=lt_of_heap hb
 have hgp:g≠p:=by
  rcases hg with hg|hg
  ·exact fun e=>hu (by rw[hg,e])
  ·omega
 have h3:w3.heap[p]? = some (nodeObj kd tx n u):=by rw[hgr.block p hlt (fun e=>hu e.symm)];exact hb
 have hset:∀ b,b≠p→(w3.setCell ⟨p,3,none⟩ (.slice (some ⟨g,0,none⟩) (ps++qs).length cap)).heap[b]? = w3.heap[b]?:=fun b hb=>Below.heap_setCell w3 ⟨p,3,none⟩ _ b hb
 refine⟨p,.slice (some ⟨g,0,none⟩) (ps++qs).length cap,ps++qs,rfl,hB,by rw[heap_set h3];rfl,?_,fun e=>hgp (by simpa[Value.ownBlock] using e),?_⟩
 ·exact owns_stay (I:=fun b=>b=g) (fun b hb _=>hset b (by rw[hb];exact hgp)) (fun g' hg'=>by simpa[Value.ownBlock] using hg'.symm) hown
 ·have h0:=NAts.mono (J:=fun b=>B≤b∧b≠p∧b≠g∧u.ownBlock≠some b) (fun b hb hl=>⟨hb.1,hb.2.1,fun e=>by (rcases hg with hg|hg);(exact hb.2.2 (by rw[hg,e]));omega,hb.2.2⟩) _ _ hk
  have hs:Stay (fun b=>B≤b∧b≠p∧b≠g∧u.ownBlock≠some b) w0 (w3.setCell ⟨p,3,none⟩ (.slice (some ⟨g,0,none⟩) (ps++qs).length cap)):=by
   intro b hb hl;rw[hset b hb.2.1];exact hgr.block b hl (fun e=>hb.2.2.2 e.symm)
  exact NAts.mono (fun b hb _=>⟨hb.1,hb.2.1,fun e=>by simp only[Value.ownBlock,Option.some.injEq] at e;exact hb.2.2.1 e.symm⟩) _ _ (NAts.later hs _ _ h0)
theorem push1 {c:Ctx}{w w1 w3:World}{j d:Nat}{t x:Tr}{p q g cap:Nat}{u:Value}{ps:List Nat}(hO:Open w.heap.size w1 t p u ps)(hx:NAts (fun b=>w.heap.size≤b∧b≠p∧u.ownBlock≠some b) w1 (t.kids++[x]) (ps++[q]))(hR:Rdr c w1 j d)(hA:Ap c.R w.heap.size w w1)(hlo:c.lo≤w.heap.size)
  (hown:w3.ownsRow w.heap.size 22 1 (.slice (some ⟨g,0,none⟩) (t.kids.length+1) cap) (t.kids.length+1) (ps.map nPtr++[nPtr q])) (hgr:(w1.alloc (.cells #[nPtr q] 22)).grownBy w3 u.ownBlock) (hg:u.ownBlock=some g∨g=w1.heap.size+1) :
  EV w.heap.size (w3.setCell ⟨p,3,none⟩ (.slice (some ⟨g,0,none⟩) (t.kids.length+1) cap)) (.mk t.kd t.tx t.n (t.kids++[x])) (nPtr p) ∧
  Rdr c (w3.setCell ⟨p,3,none⟩ (.slice (some ⟨g,0,none⟩) (t.kids.length+1) cap)) j d ∧
  Ap c.R w.heap.size w (w3.setCell ⟨p,3,none⟩ (.slice (some ⟨g,0,none⟩) (t.kids.length+1) cap)):=by
 have hlen:=NAts.length _ _ hO.kids
 have hst:∀ I,Stay I w1 (w1.alloc (.cells #[nPtr q] 22)):=fun I b _ hl=>Below.heap_alloc w1 _ b hl
 have hb:(w1.alloc (.cells #[nPtr q] 22)).heap[p]? = some (nodeObj t.kd t.tx t.n u):=by rw[Below.heap_alloc w1 _ p (lt_of_heap hO.blk)];exact hO.blk
 have hrow:∀ k,u.ownBlock=some k→w.heap.size≤k:=fun k hk=>(own_lt hO.row k hk).2
 have hgrow:Below w.heap.size w1 w3:=((Below.refl w.heap.size w1).alloc hA.size _).grown hgr (by simp;have:=hA.size;omega) hrow
 have hset:Below w.heap.size w1 (w3.setCell ⟨p,3,none⟩ (.slice (some ⟨g,0,none⟩) (t.kids.length+1) cap)):=hgrow.setCell (p:=⟨p,3,none⟩) hO.low _
 refine⟨?_,hR.ap hset hlo,hA.trans (Ap.of hset)⟩
 refine ev_push (w0:=w1.alloc (.cells #[nPtr q] 22)) hO.low hb hO.own (NAts.later (hst _) _ _ hx) (by rw[List.map_append];exact hown) (by simp[hlen]) hgr ?_
 rcases hg with hg|hg
 ·exact Or.inl hg
 ·exact Or.inr (by simp[hg])
theorem choice_eq (l:List Tk)(F:Fns)(d i:Nat):choiceP l F d i=(behindP l F d i).bind fun n i2=>
  if fx l i2=tElse then (deepP l F.st d (i2+1)).bind fun s2 i3=>.ok (.mk n.kd n.tx n.n (n.kids++[s2])) i3 else .ok n i2:=by
 unfold choiceP behindP
 cases inParP l F d (i+1) with
 | out=>rfl
 | bad er p=>rfl
 | ok v i1=>
  simp only[bind_ok]
  cases deepP l F.st d i1 with
  | out=>rfl
  | bad er p=>rfl
  | ok s i2=>rfl
theorem behind_kids {l:List Tk}{F:Fns}{d i j:Nat}{t:Tr}(h:behindP l F d i=.ok t j):t.kids.length=2:=by
 unfold behindP at h
 cases h1:inParP l F d (i+1) with
 | out=>rw[h1] at h;cases h
 | bad er p=>rw[h1] at h;cases h
 | ok v i1=>
  rw[h1,bind_ok] at h
  cases h2:deepP l F.st d i1 with
  | out=>rw[h2] at h;cases h
  | bad er p=>rw[h2] at h;cases h
  | ok s i2=>rw[h2,bind_ok] at h;cases h;rfl
open zrqbj in
theorem choice_any {c:Ctx}{F:Fns}(hF:FC c F)(w:World)(d i:Nat)(r:PR Tr)(hk:(tkA c.l i).kd≠6)(hs:choiceP c.l F d i=r)(ho:r≠.out)(h:Rdr c w i d):Calls Tryz.prog 167 #[rPtr c] w (PPost c w d (NV w.heap.size) r):=by
 have hmf:=mf_bound c.R 176
 have HKD:=hide hk
 have HLO:=hide h.base.size
 obtain⟨i0,hi0,hz0,hz1,hz2⟩:=info_parts info22
 rw[choice_eq] at hs
 clear hk
 have HR0:=hide h
 have HA0:=hide (Ap.refl c.R w.heap.size w)
 have HLT:=hide h.rlt
 have HS:=hide hs
 have HO:=hide ho
 clear h hs ho
 go_enter Tryz.func167,Tryz.ntmps167
 cases hr:behindP c.l F d i with
 | out=>
  exact zbal
 | bad er p=>
  have HC:=hide (behind_any hF w d i _ HKD.out rfl (by rw[hr];nofun) HR0.out)
  exact zbax
 | ok x1 j1=>
  have HKL:=hide (behind_kids hr);have HC:=hide (behind_any hF w d i _ HKD.out rfl (by rw[hr];nofun) HR0.out)
  exact zrdn
open zrqbk in
theorem giving_any {c:Ctx}{F:Fns}(hF:FC c F)(w:World)(d i:Nat)(r:PR Tr)(hk:(tkA c.l i).kd≠6)(hs:givingP c.l F d i=r)(ho:r≠.out)(h:Rdr c w i d):Calls Tryz.prog 169 #[rPtr c] w (PPost c w d (NV w.heap.size) r):=by
 have hmf:=mf_bound c.R 243
 have HKD:=hide hk
 have HLO:=hide h.base.size
 obtain⟨i0,hi0,hz0,hz1,hz2⟩:=info_parts info22
 clear hk
 have HR0:=hide h
 have HA0:=hide (Ap.refl c.R w.heap.size w)
 have HLT:=hide h.rlt
 unfold givingP at hs
 have HS:=hide hs
 have HO:=hide ho
 clear h hs ho
 go_enter Tryz.func169,Tryz.ntmps169
 exact zreb
open zrqbl in
theorem decl_any {c:Ctx}{F:Fns}(hF:FC c F)(w:World)(d i:Nat)(r:PR Tr)(hk:(tkA c.l i).kd≠6)(hs:declP c.l F d i=r)(ho:r≠.out)(h:Rdr c w i d):Calls Tryz.prog 163 #[rPtr c] w (PPost c w d (NV w.heap.size) r):=by
 have hmf:=mf_bound c.R 243
 have HKD:=hide hk
 have HLO:=hide h.base.size
 obtain⟨i0,hi0,hz0,hz1,hz2⟩:=info_parts info22
 clear hk
 have HR0:=hide h
 have HA0:=hide (Ap.refl c.R w.heap.size w)
 have HLT:=hide h.rlt
 unfold declP at hs
 have HS:=hide hs
 have HO:=hide ho
 clear h hs ho
 go_enter Tryz.func163,Tryz.ntmps163
 exact zreb
theorem w3_any {c:Ctx}{b:Nat}{w1 W2:World}{i d:Nat}{v0 v1 v2 v3:Value}(h:Rdr c w1 i d)(hlo:c.lo≤b)(p1:w1.heap[b]? = some O160)
  (hW:W2=(((w1.setCell ⟨b,0,none⟩ v0).setCell ⟨b,1,none⟩ v1).setCell ⟨b,2,none⟩ v2).setCell ⟨b,3,none⟩ v3) :
  Rdr c W2 i d∧Below b w1 W2∧C160 b W2 v0 v1 v2 v3:=by
 have hB:Below b w1 W2:=by
  rw[hW]
  exact((((Below.refl _ w1).setCell (p:=⟨b,0,none⟩) (Nat.le_refl _) v0).setCell (p:=⟨b,1,none⟩) (Nat.le_refl _) v1).setCell (p:=⟨b,2,none⟩) (Nat.le_refl _) v2).setCell (p:=⟨b,3,none⟩) (Nat.le_refl _) v3
 refine⟨h.ap hB hlo,hB,c160 ?_⟩
 rw[hW]
 exact set4 p1 v0 v1 v2 v3
section
variable {c:Ctx} (w:World) (d i:Nat)
include c w d i
theorem av_name (hk:(tkA c.l i).kd=1)(h:Rdr c w i d):Calls Tryz.prog 312 #[rPtr c] w fun e w'=>e=.returned (.bool true)∧Below w.heap.size w w':=by
 have HR0:=hide h
 have HB0:=hide (Below.refl w.heap.size w)
 have b1:((tkA c.l i).kd==1)=true:=by rw[hk];decide
 have b3:((tkA c.l i).kd==3)=false:=by rw[hk];decide
 have b4:((tkA c.l i).kd==4)=false:=by rw[hk];decide
 exact zbcr
theorem av_num (hk:(tkA c.l i).kd=3)(h:Rdr c w i d):Calls Tryz.prog 312 #[rPtr c] w fun e w'=>e=.returned (.bool true)∧Below w.heap.size w w':=by
 have HR0:=hide h
 have HB0:=hide (Below.refl w.heap.size w)
 have b1:((tkA c.l i).kd==1)=false:=by rw[hk];decide
 have b3:((tkA c.l i).kd==3)=true:=by rw[hk];decide
 have b4:((tkA c.l i).kd==4)=false:=by rw[hk];decide
 exact zbcr
theorem av_str (hk:(tkA c.l i).kd=4)(h:Rdr c w i d):Calls Tryz.prog 312 #[rPtr c] w fun e w'=>e=.returned (.bool true)∧Below w.heap.size w w':=by
 have HR0:=hide h
 have HB0:=hide (Below.refl w.heap.size w)
 have b1:((tkA c.l i).kd==1)=false:=by rw[hk];decide
 have b3:((tkA c.l i).kd==3)=false:=by rw[hk];decide
 have b4:((tkA c.l i).kd==4)=true:=by rw[hk];decide
 exact zbcr
end
section
variable {c:Ctx} (w:World) (d i:Nat) (h1:(tkA c.l i).kd≠1) (h3:(tkA c.l i).kd≠3) (h4:(tkA c.l i).kd≠4)
include c w d i h1 h3 h4
open zrqbi in
theorem av_map (q:Nat)(hq:look2 vlKeys (fx c.l i)=some q)(h:Rdr c w i d):Calls Tryz.prog 312 #[rPtr c] w fun e w'=>e=.returned (.bool true)∧Below w.heap.size w w':=by
 exact zrde
open zrqbg in
theorem av_none (hq:look2 vlKeys (fx c.l i)=none)(hsg:sgOf (fx c.l i)=none)(h:Rdr c w i d):Calls Tryz.prog 312 #[rPtr c] w fun e w'=>e=.returned (.bool false)∧Below w.heap.size w w':=by
 exact zrde
open zrqbh in
theorem av_some (x:Sg)(hq:look2 vlKeys (fx c.l i)=none)(hsg:sgOf (fx c.l i)=some x)(h:Rdr c w i d):Calls Tryz.prog 312 #[rPtr c] w fun e w'=>e=.returned (.bool (decide (x.parts<2)))∧Below w.heap.size w w':=by
 exact zrde
end
theorem atValue_any (c:Ctx):Asks c 312 (isVal c.l):=by
 intro w d i h
 unfold isVal
 by_cases h1:(tkA c.l i).kd=1
 ·rw[h1];exact av_name w d i h1 h
 ·by_cases h3:(tkA c.l i).kd=3
  ·rw[h3];exact av_num w d i h3 h
  ·by_cases h4:(tkA c.l i).kd=4
   ·rw[h4];exact av_str w d i h4 h
   ·rw[beq_eq_false_iff_ne.2 h1,beq_eq_false_iff_ne.2 h3,beq_eq_false_iff_ne.2 h4];simp only[Bool.false_or]
    cases hq:look2 vlKeys (fx c.l i) with
    | some q=>exact av_map w d i h1 h3 h4 q hq h
    | none=>
     cases hsg:sgOf (fx c.l i) with
     | none=>exact av_none w d i h1 h3 h4 hq hsg h
     | some x=>
      have hx:=av_some w d i h1 h3 h4 x hq hsg h
      cases hp:decide (x.parts<2) with
      | true=>rw[hp] at hx;simpa[Option.filter,hp] using hx
      | false=>rw[hp] at hx;simpa[Option.filter,hp] using hx
end Go.Proofs.YtoimgcjbcbhclaaGreatDoor
