/-
  tell: what is told of each name; how its things lie; a row of nodes.
-/
import Derived.Test.YtoimgcjbcbhclaaGreatDoorWt25
set_option maxRecDepth 100000
set_option maxHeartbeats 16000000
namespace Go.Proofs.YtoimgcjbcbhclaaGreatDoor
open Go.RowKit
abbrev Us:=Int × Int × Bool
def usC (u:Us):List Value:=[.int .i64 u.1,.int .i64 u.2.1,.bool u.2.2]
def usCells (l:List Us):List Value:=l.flatMap usC
theorem usCells_len (l:List Us):(usCells l).length=l.length * 3:=by
 induction l with
 | nil=>rfl
 | cons u l ih=>
  have:usCells (u::l)=usC u++usCells l:=rfl;rw[this,List.length_append,ih,List.length_cons];simp[usC];omega
theorem usCells_app (a b:List Us):usCells (a++b)=usCells a++usCells b:=List.flatMap_append
abbrev tArguments:ByteArray:=⟨#[97,114,103,117,109,101,110,116,115]⟩
def tls (f:Tr→Nat→List Sc→Bool→List Us):List Tr→Nat→List Sc→Bool→List Us
 | [],_,_,_=>[]
 | t::ts,no,ch,st=>f t no ch st++tls f ts (no+t.count) ch st
def fnSc (t pr bl:Tr)(no:Nat)(ch:List Sc)(st:Bool):List Sc:=
 ⟨no,(pr.kids.map Tr.tx++[tArguments])++namesT bl true,!(st||strictT bl)&&evalsT bl⟩::(if t.kd==37 then ⟨no,[t.tx],false⟩::ch else ch)
def tl:Nat→Tr→Nat→List Sc→Bool→List Us
 | 0,_,_,_,_=>[]
 | m+1,t,no,ch,st=>
  if t.kd=23 then ((no:Int),(findS ch t.tx true).1,(findS ch t.tx true).2)::tls (tl m) t.kids (no+1) ch (st||strictT t)
  else if t.kd=1 then tls (tl m) t.kids (no+1) (⟨no,(letsT t).map Tr.tx,false⟩::ch) (st||strictT t)
  else if t.kd=6 then tls (tl m) t.kids (no+1) (⟨no,namesT t false,false⟩::ch) (st||strictT t)
  else if t.kd=13 then tls (tl m) t.kids (no+1) (⟨no,[t.tx],false⟩::ch) (st||strictT t)
  else if t.kd=9 then match t.kids with
   | k0::k1::_=>tl m k0 (no+1) ch (st||strictT t)++tl m k1 (no+1+k0.count) (⟨0,[],true⟩::ch) (st||strictT t)
   | _=>[]
  else if t.kd=5∨t.kd=37 then match t.kids with
   | pr::bl::_=>tls (tl m) bl.kids (no+1+pr.count+1) (fnSc t pr bl no ch (st||strictT t)) (st||strictT t||strictT bl)
   | _=>[]
  else if t.kd=40 then []
  else tls (tl m) t.kids (no+1) ch (st||strictT t)
theorem tls_app (f:Tr→Nat→List Sc→Bool→List Us):∀ (a b:List Tr) (no:Nat) (ch:List Sc) (st:Bool),tls f (a++b) no ch st=tls f a no ch st++tls f b (no+Tr.counts a) ch st
 | [],b,no,ch,st=>by rw[counts_nil];rfl
 | t::a,b,no,ch,st=>by
  rw[List.cons_append,tls,tls,tls_app f a b,counts_cons,List.append_assoc,Nat.add_assoc]
theorem tls_take (f:Tr→Nat→List Sc→Bool→List Us)(l:List Tr)(k:Nat)(hk:k<l.length)(no:Nat)(ch:List Sc)(st:Bool):tls f (l.take (k+1)) no ch st=tls f (l.take k) no ch st++f l[k] (no+Tr.counts (l.take k)) ch st:=by
 rw[List.take_succ_eq_append_getElem hk,tls_app]
 simp[tls]
structure Fm (I:Nat→Prop)(w w':World):Prop where
 os:w'.os=w.os
 tape:w'.tape=w.tape
 output:w'.output=w.output
 size:w.heap.size≤w'.heap.size
 stay:Stay I w w'
theorem Fm.trans {I:Nat→Prop}{a b c:World}(h:Fm I a b)(k:Fm I b c):Fm I a c:=
 ⟨k.os.trans h.os,k.tape.trans h.tape,k.output.trans h.output,Nat.le_trans h.size k.size,fun x hx hl=>(k.stay x hx (Nat.lt_of_lt_of_le hl h.size)).trans (h.stay x hx hl)⟩
theorem Fm.of {I:Nat→Prop}{w w':World}(h:Below w.heap.size w w'):Fm I w w':=⟨h.os,h.tape,h.output,h.size,fun b _ hl=>h.block b hl⟩
theorem Fm.less {I J:Nat→Prop}{w w':World}(h:Fm J w w')(hI:∀ b,I b→J b):Fm I w w':=⟨h.os,h.tape,h.output,h.size,fun b hb hl=>h.stay b (hI b hb) hl⟩
theorem Fm.refl (I:Nat→Prop)(w:World):Fm I w w:=⟨rfl,rfl,rfl,Nat.le_refl _,fun _ _ _=>rfl⟩
section
variable {I:Nat→Prop} {w w':World} (h:Fm I w w')
include I w w' h
theorem Fm.drew:Fm I w w'.drew:=⟨h.os,h.tape,h.output,h.size,h.stay⟩
theorem Fm.cell {b o:Nat}(hI:I b)(hl:b<w.heap.size):w'.cell? ⟨b,o,none⟩=w.cell? ⟨b,o,none⟩:=World.cell?_of_block (w:=w) (a:=⟨b,o,none⟩) (h.stay b hI hl)
theorem Cl.fm {p:Nat}(hI:I p)(hp:Cl w p):Cl w' p:=by
 obtain⟨cs,t,hc⟩:=hp
 exact⟨cs,t,by rw[h.stay p hI (lt_of_heap hc)];exact hc⟩
end
structure TW (I:Nat→Prop)(tb mb:Nat)(A:List Nat)(L:List Us)(w:World):Prop where
 blk:∃ v,w.heap[tb]? = some (.cells #[.map (some mb),v] 108 (0,0))∧w.ownsRow 0 56 3 v L.length (usCells L)∧(∀ b,I b→v.ownBlock≠some b)∧v.ownBlock≠some tb
 map:w.heap[mb]? = some (.map (mapP (nodL A)) A.length)
 imb:I mb
 ne:∀ b,I b→b<w.heap.size∧b≠tb
 cl:∀ p ∈ A,I p∧Cl w p
 nd:A.Nodup
section
variable {I:Nat→Prop} {tb mb:Nat} {A:List Nat} {L:List Us} {w w':World} (h:TW I tb mb A L w) (hb:Below w.heap.size w w')
include I tb mb A L w w' h hb
theorem TW.later:TW I tb mb A L w':=by
 obtain⟨⟨v,h1,h2,h3,h4⟩,h5,h6,h7,h8,h9⟩:=h
 exact⟨⟨v,by rw[hb.block tb (lt_of_heap h1)];exact h1,owns_stay (I:=fun _=>True) (Below.stay hb) (fun _ _=>trivial) h2,h3,h4⟩,by rw[hb.block mb (lt_of_heap h5)];exact h5,h6,fun b hb'=>⟨Nat.lt_of_lt_of_le (h7 b hb').1 hb.size,(h7 b hb').2⟩,fun p hp=>⟨(h8 p hp).1,Cl.fm (Fm.of hb) (h8 p hp).1 (h8 p hp).2⟩,h9⟩
theorem TW.more:TW (fun b=>I b∨(w.heap.size≤b∧b<w'.heap.size)) tb mb A L w':=by
 obtain⟨⟨v,h1,h2,h3,h4⟩,h5,h6,h7,h8,h9⟩:=h.later hb
 obtain⟨⟨v',k1,k2,k3,k4⟩,_⟩:=h
 have hv:v'=v:=by
  rw[hb.block tb (lt_of_heap k1),k1] at h1;simpa using h1
 subst hv
 refine⟨⟨v',h1,h2,fun b hb' e=>?_,h4⟩,h5,Or.inl h6,fun b hb'=>?_,fun p hp=>⟨Or.inl (h8 p hp).1,(h8 p hp).2⟩,h9⟩
 ·rcases hb' with hb' | hb'
  ·exact h3 b hb' e
  ·have:=(own_lt k2 b e).1;omega
 ·rcases hb' with hb' | hb'
  ·exact h7 b hb'
  ·have:=lt_of_heap k1;exact⟨hb'.2,by omega⟩
end
theorem TW.less {I J:Nat→Prop}{tb mb:Nat}{A:List Nat}{L L':List Us}{w w':World}(h:TW J tb mb A L' w')(h0:TW I tb mb A L w)(hI:∀ b,I b→J b):TW I tb mb A L' w':=by
 obtain⟨⟨v,h1,h2,h3,h4⟩,h5,h6,h7,h8,h9⟩:=h
 exact⟨⟨v,h1,h2,fun b hb=>h3 b (hI b hb),h4⟩,h5,h0.imb,fun b hb=>h7 b (hI b hb),fun p hp=>⟨(h0.cl p hp).1,(h8 p hp).2⟩,h9⟩
def TellC (m:Nat):Prop:=∀ (a:Ad),a.cnt≤m→∀ (I:Nat→Prop) (tb mb:Nat) (A pre post:List Nat) (L:List Us) (v:Value) (ch:List Sc) (st:Bool) (w:World),
 A=pre++(a.ads++post)→TW I tb mb A L w→AAt I w a→a.tr.ill=0→Chn I w v ch→L.length+a.cnt≤20000 →
 Calls Tryz.prog 68 #[sPtr tb,nPtr a.p,plV2 v st] w fun e w'=>e=.returned (.tuple #[])∧TW I tb mb A (L++tl m a.tr pre.length ch st) w'∧Fm I w w'
theorem evWs_any:∀ ts:List Tr,evWs ts=ts.any evW
 | []=>by rw[evWs];rfl
 | t::ts=>by rw[evWs,evWs_any ts,List.any_cons]
theorem revTail {G:Prop}(h:G:=by
 go_wp2_with fail
 refine cm HF.out ?_
 rintro e w2 ⟨rfl,rfl⟩
 clear HF
 go_wp2_with fail
 go_loopw [43] (fun i wr=>∃ k:Nat,k≤ks.length∧i=.int .i64 k∧((ks.take k).any fun x=>evW x.tr)=false∧wr=w2) (fun i _=>ks.length - (intOf i).toNat)
 case atStart=>exact⟨0,Nat.zero_le _,rfl,rfl,rfl⟩
 case round=>
  obtain⟨k,hk2,rfl,hany,hw⟩:=hrel;obtain rfl:w2=wr:=hw.symm;have HANY:=hide hany;clear hw hany
  by_cases hlt:k<ks.length
  ·have hki:(k:Int)<(ks.length:Int):=by omega
   obtain⟨g,hge,hgl,hck⟩:=unhide HCELL k hlt;cases hge;have HC:=hide (unhide HIH ks[k] (List.getElem_mem hlt));have HTK:Hid (((ks.take (k+1)).any fun x=>evW x.tr)=evW (ks[k]).tr):=by
    show _=_
    rw[List.take_succ_eq_append_getElem hlt,List.any_append,HANY.out];simp
   have HME:Hid (evW (ks[k]).tr=true→R=true):=fun h=>by
    rw[HR.out,List.any_eq_true];exact⟨ks[k],List.getElem_mem hlt,h⟩
   generalize (ks[k]).p=q at *
   generalize evW (ks[k]).tr=b at *
   clear c0 c3v
   cases b with
   | true=>
    have hRt:R=true:=unhide HME rfl;subst hRt;go_wp2_with fail;refine cm HC.out ?_;rintro e w3 ⟨rfl,rfl⟩;clear HC;go_wp2_with fail;go_ret;exact⟨rfl,rfl⟩
   | false=>
    go_wp2_with fail;refine cm HC.out ?_;rintro e w3 ⟨rfl,rfl⟩;clear HC;go_wp2_with fail
    go_roundw
    case rel=>exact⟨k+1,by omega,by go_num,HTK.out,by first|rfl|trivial⟩
    case measure=>simp[intOf];omega
  ·have hkk:k=ks.length:=by omega
   subst hkk;have hRf:R=false:=by rw[HR.out,←HANY.out,List.take_length]
   subst hRf;go_wp2_with fail;go_ret;exact⟨rfl,rfl⟩):G:=h
theorem revals_any {I:Nat→Prop}:∀ (m:Nat) (a:Ad),a.cnt≤m→a.cnt≤20000→∀ w:World,AAt I w a→a.tr.ill=0 →
  Calls Tryz.prog 29 #[nPtr a.p] w fun e w'=>e=.returned (.bool (evW a.tr))∧w'=w:=by
 intro m
 induction m with
 | zero=>intro a ha;have:=cnt_pos a;omega
 | succ m ih=>
  intro a ha hc w ht hi;obtain⟨_,hpl,c0,_,v,c3v,hrow⟩:=ht.cells;obtain⟨e1,_,e3⟩:=a.tr_eq;have HF:=hide (risFunc_any a.tr a.p w ht.nat.nt);have hca:=cnt_eq a
  have hkl:a.ks.length≤20000:=by have:=cnts_len a.ks;omega
  have HIH:Hid (∀ k ∈ a.ks,Calls Tryz.prog 29 #[nPtr k.p] w fun e w'=>e=.returned (.bool (evW k.tr))∧w'=w):=fun k hk=>by
   have h1:k.cnt≤Ad.cnts a.ks:=by
    have key:∀ es:List Ad,k ∈ es→k.cnt≤Ad.cnts es:=by
     intro es
     induction es with
     | nil=>intro hh;cases hh
     | cons e es ih=>
      intro hh;rw[Ad.cnts]
      rcases List.mem_cons.1 hh with rfl|hh
      ·omega
      ·have:=ih hh;omega
    exact key _ hk
   exact ih k (by omega) (by omega) w (ht.parts k hk) (ill_parts hi k hk)
  have hev:evW a.tr=(ceT a.tr||(if isFunT a.tr then false else (a.ks.map Ad.tr).any evW)):=by rw[evW_eq,evWs_any,e3]
  have hce:ceT a.tr=(a.kd==35&&(match a.ks.map Ad.tr with|k::_=>k.kd==23&&decide (k.tx=tEval) | []=>false)):=by unfold ceT;rw[e1,e3];rfl
  have hc35:=ill_call hi;have HROW:=hide hrow;obtain⟨ra,rc,hrf⟩:=row_shut hrow.1;rw[List.length_map] at hrf;subst hrf
  have HCELL:Hid (∀ k (hk:k<a.ks.length),∃ g,ra=some ⟨g,0,none⟩∧g<w.heap.size∧w.cell? ⟨g,k,none⟩=some (nPtr (a.ks[k]).p)):=fun k hk=>by
   exact zber
  have HPRT:=hide ht.parts;rw[hev];have hfk:isFunT a.tr=true→(a.kd==35)=false:=fun h=>by
   unfold isFunT at h;rw[e1,Bool.or_eq_true,beq_iff_eq,beq_iff_eq] at h
   rcases h with h|h <;> rw[h] <;> rfl
  have han:((a.ks.map Ad.tr).any evW)=a.ks.any fun x=>evW x.tr:=by rw[List.any_map];rfl
  rw[han];obtain⟨R,hR⟩:∃ R,R=a.ks.any fun x=>evW x.tr:=⟨_,rfl⟩;rw[←hR];have HR:=hide hR
  generalize hcd:ceT a.tr=cb at hce ⊢
  clear hcd hev hR han
  cases hf:isFunT a.tr with
  | true=>
   rw[hf] at HF;have h35:=hfk hf;rw[h35,Bool.false_and] at hce;subst hce
   generalize a.kd=kd at c0 h35
   generalize a.p=p at *
   clear hfk hc35 HIH HCELL HPRT hf ht e1 e3;go_enter Tryz.func29,Tryz.ntmps29;go_wp2_with fail;refine cm HF.out ?_;rintro e w2 ⟨rfl,rfl⟩;clear HF;go_wp2_with fail;go_ret;exact⟨rfl,rfl⟩
  | false=>
   rw[hf] at HF
   cases h35:(a.kd==35) with
   | false=>
    rw[h35,Bool.false_and] at hce;subst hce;rw[Bool.false_or];simp only[Bool.false_eq_true,if_false]
    generalize a.kd=kd at c0 h35
    generalize a.p=p at *
    generalize a.ks=ks at *
    clear hfk hc35 HPRT hf ht e1 e3 HROW;go_enter Tryz.func29,Tryz.ntmps29;exact revTail
   | true=>
    rw[h35,Bool.true_and] at hce;have hn:=hc35 (by simpa using h35)
    cases hks:a.ks with
    | nil=>exact absurd hks hn
    | cons k1 ks1=>
     rw[hks] at hce;obtain⟨g0,hra,hg0,d0⟩:=unhide HCELL 0 (by rw[hks];simp)
     have hA:=unhide HPRT k1 (by rw[hks];simp)
     have hd0:(a.ks[0]'(by rw[hks];simp)).p=k1.p:=by simp[hks]
     rw[hd0] at d0;obtain⟨_,hql,k0,kx1,_⟩:=hA.cells;obtain⟨f1,f2,_⟩:=k1.tr_eq;simp only[List.map_cons] at hce;rw[f1,f2] at hce;have hlen0:(0:Int)<((a.ks.length:Nat):Int):=by rw[hks];simp
     subst hra
     generalize a.kd=kd at c0 h35
     generalize k1.kd=kk at k0 hce
     generalize k1.tx=kx at kx1 hce
     generalize k1.p=q1 at *
     generalize a.p=p at *
     clear hks hd0 hA hn
     generalize a.ks=ks at *
     clear hfk hc35 HPRT hf ht e1 e3 HROW f1 f2
     cases h23:(kk==23) with
     | false=>
      rw[h23,Bool.false_and] at hce;subst hce;rw[Bool.false_or];simp only[Bool.false_eq_true,if_false];go_enter Tryz.func29,Tryz.ntmps29;exact revTail
     | true=>
      by_cases hx:kx=tEval
      ·have e2:=tl_eqL (b:=tEval) rfl hx;rw[h23,decide_eq_true hx] at hce;subst hce;clear hx;go_enter Tryz.func29,Tryz.ntmps29;go_wp2_with fail;go_ret;exact⟨rfl,rfl⟩
      ·have e2:=tl_neL (b:=tEval) rfl hx;rw[h23,decide_eq_false hx] at hce;subst hce;rw[Bool.and_false,Bool.false_or];simp only[Bool.false_eq_true,if_false];clear hx;go_enter Tryz.func29,Tryz.ntmps29
       exact revTail
theorem rstrict_any (t:Tr)(p:Nat)(w:World)(h:NTr w t p):Calls Tryz.prog 64 #[nPtr p] w fun e w'=>e=.returned (.bool (decide (t.tx=tStrict)))∧w'=w:=by
 obtain⟨hpl,_,c1,_⟩:=h.cells
 clear h
 generalize t.tx=tx at c1
 by_cases hx:tx=tStrict
 ·have e2:=tl_eqL (b:=tStrict) rfl hx;rw[decide_eq_true hx];clear hx;go_enter Tryz.func64,Tryz.ntmps64;go_wp2_with fail;go_ret;exact⟨rfl,rfl⟩
 ·have e2:=tl_neL (b:=tStrict) rfl hx;rw[decide_eq_false hx];clear hx;go_enter Tryz.func64,Tryz.ntmps64;go_wp2_with fail;go_ret;exact⟨rfl,rfl⟩
theorem rnumbers_any {I:Nat→Prop}(t:Ad)(w:World)(ht:AAt I w t)(hd:t.ads.Nodup)(hc:t.cnt≤90000)(hI:∀ p ∈ t.ads,Cl w p) :
  Calls Tryz.prog 69 #[nPtr t.p] w fun e w'=>(∃ mb,e=.returned (.map (some mb))∧w.heap.size≤mb∧w'.heap[mb]? = some (.map (mapP (nodL t.ads)) t.ads.length))∧Below w.heap.size w w':=by
 have hb0:Below w.heap.size w (w.alloc (.map #[] 0)):=(Below.refl _ _).alloc (Nat.le_refl _) _
 have HA:=hide (allA_any (I:=fun b=>b<w.heap.size) t.cnt t (Nat.le_refl _) (w.alloc (.map #[] 0)) (AAt.later (fun b hb _=>hb0.block b hb) _ (AAt.mono (fun b _ hl=>hl) _ ht)) hc)
 have HCL:=hide hI
 have HD:=hide hd
 have hal:t.ads.length=t.cnt:=t.ads_len
 have hll:t.ads.length≤90000:=by omega
 have hmk:=mkMap 44
 generalize t.ads=A at *
 generalize t.p=p at *
 clear ht hd hc hal hI
 go_enter Tryz.func69,Tryz.ntmps69
 go_wp2_with fail
 refine cm HA.out ?_
 rintro e w1 ⟨⟨v,rfl,hv⟩,hb1⟩
 have hmb:w1.heap[w.heap.size]? = some (.map #[] 0):=by
  rw[hb1.block w.heap.size (by simp)];exact heap_new _ _
 have HB1:Hid (Below w.heap.size w w1):=hb0.trans (hb1.mono hb0.size)
 have HV:=hide hv
 have HM:=hide hmb
 obtain⟨va,vc,rfl⟩:=row_shut hv
 clear HA hv hb1 hb0 hmb hmk
 have hs1:=HB1.out.size
 go_wp2_with fail
 go_loopw [10] (fun i wr=>∃ k:Nat,k≤A.length∧i=.int .i64 k∧wr.heap[w.heap.size]? = some (.map (mapP (nodL (A.take k))) k)∧Ap w.heap.size w1.heap.size w1 wr) (fun i _=>A.length - (intOf i).toNat)
 case atStart=>exact⟨0,Nat.zero_le _,rfl,HM.out,Ap.of (Below.refl _ _)⟩
 case round=>
  obtain⟨k,hk,rfl,hm,hap⟩:=hrel;have HM2:=hide hm;have HAP:=hide hap;have hs2:=hap.size;clear hm hap
  by_cases hlt:k<A.length
  ·obtain⟨g,cap,hg,hcell⟩:=row_open HV.out (by omega);simp only[Value.slice.injEq] at hg;obtain⟨rfl,_,rfl⟩:=hg;have hck:=hcell k hlt;have hgb:=own_lt HV.out g rfl
   have hck2:wr.cell? ⟨g,k,none⟩=some (nPtr A[k]):=by
    rw[World.cell?_of_block (w:=w1) (a:=⟨g,k,none⟩) (HAP.out.block g hgb.1 (by have:=hgb.2;simp at this;omega))]
    exact hck
   have hgl:g<wr.heap.size:=by have:=hgb.1;omega
   have hki:(k:Int)<(A.length:Int):=by omega
   have hcl:∀ x ∈ A,Cl wr x:=fun x hx=>by
    obtain⟨cs,ty,h1⟩:=unhide HCL x hx;have hxl:=lt_of_heap h1;refine⟨cs,ty,?_⟩;rw[HAP.out.block x (by omega) (by omega),HB1.out.block x hxl];exact h1
   have htl:(nodL (A.take k)).length=k:=by rw[nodL_len,List.length_take];omega
   have hm3:wr.heap[w.heap.size]? = some (.map (mapP (nodL (A.take k))) (nodL (A.take k)).length):=by rw[htl];exact unhide HM2
   have hnot:A[k] ∉ A.take k:=fun hmem=>by
    obtain⟨j,hj,hje⟩:=List.mem_iff_getElem.1 hmem;rw[List.length_take] at hj;rw[List.getElem_take] at hje;have:=(List.getElem_inj (h₀:=by omega) (h₁:=hlt) HD.out).1 hje;omega
   have hup:=update_ptr w.heap.size (nodL (A.take k)) A[k] (.int .i64 (k:Int)) wr hm3 (hcl _ (List.getElem_mem hlt)) (fun e he=>hcl _ (List.mem_of_mem_take (nodL_mem he))) (nodL_none hnot)
   have hsn:nodL (A.take k)++[(A[k],.int .i64 (k:Int))]=nodL (A.take (k+1)):=by
    rw[List.take_succ_eq_append_getElem hlt,nodL_snoc]
    congr 4
    rw[List.length_take];omega
   rw[hsn,htl] at hup;have HM4:Hid ((setMap wr w.heap.size (.map (mapP (nodL (A.take (k+1)))) (k+1))).heap[w.heap.size]? = some (.map (mapP (nodL (A.take (k+1)))) (k+1))):=by
    show _=_
    exact setMap_at (lt_of_heap HM2.out)
   generalize A[k]=x at *
   clear hcell hck hcl hm3 hnot hsn;go_wp2_with fail
   go_roundw
   case rel=>exact⟨k+1,by omega,by go_num,HM4.out,HAP.out.trans (ap_setMap _ _)⟩
   case measure=>simp[intOf];omega
  ·have hkk:k=A.length:=by omega
   subst hkk;go_wp2_with fail;go_ret;have h1:=unhide HM2;rw[List.take_length] at h1;refine⟨⟨_,rfl,Nat.le_refl _,h1⟩,?_⟩;have hB:=unhide HB1;have hA:=unhide HAP
   exact⟨hA.os.trans hB.os,hA.tape.trans hB.tape,hA.output.trans hB.output,Nat.le_trans hB.size hA.size,fun x hx=>(hA.block x (by omega) (by omega)).trans (hB.block x hx)⟩
section
variable {P:Program} {md:Region.Mode} {ops:Array Oper} {Q:Exit→Act→World→Prop} {S:World→Prop} {b:Nat}
def wpAnyU (P:Program)(md:Region.Mode)(ops:Array Oper)(Q:Exit→Act→World→Prop)(S:World→Prop)(b:Nat):Nat→Array Bool→Act→World→Prop
 | 0,listed,a,w=>Region.ready md ops listed=[]∧Q .normal a w
 | n+1,listed,a,w=>(Region.ready md ops listed=[]→Q .normal a w)∧∀ i ∈ Region.ready md ops listed,wpOp P ops Q i (fun a' w'=>((listed.setIfInBounds i true).getD b false=false→S w')∧wpAnyU P md ops Q S b n (listed.setIfInBounds i true) a' w') a w
theorem wpAny_of_U:∀ (n:Nat) (listed:Array Bool) (a:Act) (w:World),wpAnyU P md ops Q S b n listed a w→wpAny P md ops Q n listed a w
 | 0,_,_,_,h=>h
 | n+1,_,_,_,h=>⟨h.1,fun i hi=>wpOp_mono (fun a' w' h'=>wpAny_of_U n _ a' w' h'.2) (h.2 i hi)⟩
open zrqea in
theorem U_first {i:Nat}{oi ob:Oper}{v:Value}(hi:ops[i]? = some oi)(hob:ops[b]? = some ob)(hsel:∀ (j:Nat) (o:Oper) cs c,ops[j]? = some o→o.op≠.select cs c)
  (hQ:∀ c a w,Q (.panic c) (a.put oi.dst v) w→Q (.panic c) a w) (hib:i≠b) (hw:∃ e ∈ ob.after,Region.binds md e=true∧e.on=i) :
  ∀ (n:Nat) (listed:Array Bool) (a:Act) (w:World),listed.getD b false=false →
   (∀ j oj,ops[j]? = some oj→j≠i→listed.getD j true=false→(∀ e ∈ oj.after,Region.binds md e=true→e.on≠i)→oi.apart ops oj=true) →
   i ∈ Region.ready md ops listed→YieldsIf P ops S oi v a→S w →
   wpAnyU P md ops Q S b n (listed.setIfInBounds i true) (a.put oi.dst v) w→wpAnyU P md ops Q S b (n+1) listed a w:=by
 exact zref
theorem U_first0 {i:Nat}{oi:Oper}{v:Value}(hi:ops[i]? = some oi)(hsel:∀ (j:Nat) (o:Oper) cs c,ops[j]? = some o→o.op≠.select cs c)
  (hQ:∀ c a w,Q (.panic c) (a.put oi.dst v) w→Q (.panic c) a w) (hib:i≠b) :
  ∀ (n:Nat) (listed:Array Bool) (a:Act) (w:World),
   (∀ j oj,ops[j]? = some oj→j≠i→listed.getD j true=false→(∀ e ∈ oj.after,Region.binds md e=true→e.on≠i)→oi.apart ops oj=true) →
   i ∈ Region.ready md ops listed→YieldsIf P ops (fun _=>True) oi v a→(listed.getD b false=false→S w) →
   wpAnyU P md ops Q S b n (listed.setIfInBounds i true) (a.put oi.dst v) w→wpAnyU P md ops Q S b (n+1) listed a w:=by
 have waits:∀ {listed:Array Bool} {oj:Oper},i ∈ Region.ready md ops listed→(∀ e ∈ oj.after,Region.binds md e=true→listed.getD e.on false=true)→∀ e ∈ oj.after,Region.binds md e=true→e.on≠i:=by
  intro listed oj hr hall e he hb heq;exact zbdz
 intro n
 induction n with
 | zero=>
  intro listed a w _ hr hy hS H;refine⟨fun h=>(by rw[h] at hr;cases hr),fun j hj=>?_⟩
  by_cases hji:j=i
  ·subst hji;exact hy.wpOp hi trivial ⟨fun h=>hS (by rw[getD_set_ne false hib] at h;exact h),H⟩
  ·have hm:=ready_mono hj hji;rw[H.1] at hm;cases hm
 | succ n ih=>
  intro listed a w hfree hr hy hS H;refine⟨fun h=>(by rw[h] at hr;cases hr),fun j hj=>?_⟩
  by_cases hji:j=i
  ·subst hji;exact hy.wpOp hi trivial ⟨fun h=>hS (by rw[getD_set_ne false hib] at h;exact h),H⟩
  ·obtain⟨hjun,oj,hoj,hall⟩:=mem_ready.1 hj;have hnot:=waits (oj:=oj) hr hall
   have h2:=wpOp_putIf hoj (hfree j oj hoj hji hjun hnot) (fun cs c=>hsel i oi cs c hi) (fun cs c=>hsel j oj cs c hoj) hQ hy (H.2 j (ready_mono hj hji));refine wpOp_mono (fun a' w' h3=>?_) h2
   have hS':(listed.setIfInBounds j true).getD b false=false→S w':=fun h=>h3.2.1 (by rw[Array.setIfInBounds_comm _ _ (Ne.symm hji),getD_set_ne false hib];exact h)
   refine⟨hS',ih (listed.setIfInBounds j true) a' w' (fun m om hm hmi hun hno=>hfree m om hm hmi ?_ hno) (ready_mono hr (Ne.symm hji)) h3.1 hS' ?_⟩
   ·exact zbfv
   ·rw[Array.setIfInBounds_comm _ _ hji];exact h3.2.2
theorem uh {oi:Oper}{n:Nat}{listed:Array Bool}{a:Act}{w:World}(i:Nat)(v:Value)(hS:S w)
  (h:wpAnyU P md ops Q S b n (listed.setIfInBounds i true) (a.put oi.dst v) w) (hi:ops[i]? = some oi:=by rfl) (hQ:∀ c a w,Q (.panic c) (a.put oi.dst v) w→Q (.panic c) a w:=by exact fun _ _ _ h=>h)
  (hs:Region.noSelect ops=true:=by kernel_rfl) (hf:Region.free md ops listed i=true:=by kernel_rfl) (hr:(Region.ready md ops listed).contains i=true:=by kernel_rfl)
  (hib:i≠b:=by decide) (hy:YieldsIf P ops (fun _=>True) oi v a:=by exact Or.inl ⟨by kernel_rfl,fun _ _=>by go_simp⟩):wpAnyU P md ops Q S b (n+1) listed a w:=
 U_first0 hi (Region.noSelect_spec hs) hQ hib n listed a w (Region.free_spec hi hf) (by simpa using hr) hy (fun _=>hS) h
theorem uz {oi:Oper}{n:Nat}{listed:Array Bool}{a:Act}{w:World}(i:Nat)(v:Value)
  (h:wpAnyU P md ops Q S b n (listed.setIfInBounds i true) (a.put oi.dst v) w) (hi:ops[i]? = some oi:=by rfl) (hQ:∀ c a w,Q (.panic c) (a.put oi.dst v) w→Q (.panic c) a w:=by exact fun _ _ _ h=>h)
  (hs:Region.noSelect ops=true:=by kernel_rfl) (hf:Region.free md ops listed i=true:=by kernel_rfl) (hr:(Region.ready md ops listed).contains i=true:=by kernel_rfl)
  (hib:i≠b:=by decide) (hl:listed.getD b false=true:=by kernel_rfl) (hy:YieldsIf P ops (fun _=>True) oi v a:=by exact Or.inl ⟨by kernel_rfl,fun _ _=>by go_simp⟩):wpAnyU P md ops Q S b (n+1) listed a w:=
 U_first0 hi (Region.noSelect_spec hs) hQ hib n listed a w (Region.free_spec hi hf) (by simpa using hr) hy (fun e=>by rw[hl] at e;cases e) h
theorem ug {oi ob:Oper}{n:Nat}{listed:Array Bool}{a:Act}{w:World}(i:Nat)(v:Value)(hi:ops[i]? = some oi)(hy:YieldsIf P ops S oi v a)(hS:S w)
  (h:wpAnyU P md ops Q S b n (listed.setIfInBounds i true) (a.put oi.dst v) w) (hQ:∀ c a w,Q (.panic c) (a.put oi.dst v) w→Q (.panic c) a w:=by exact fun _ _ _ h=>h) (hob:ops[b]? = some ob:=by rfl)
  (hs:Region.noSelect ops=true:=by kernel_rfl) (hf:Region.free md ops listed i=true:=by kernel_rfl) (hr:(Region.ready md ops listed).contains i=true:=by kernel_rfl)
  (hib:i≠b:=by decide) (hw:(ob.after.any fun e=>Region.binds md e&&e.on==i)=true:=by kernel_rfl) (hnb:listed.getD b false=false:=by kernel_rfl):wpAnyU P md ops Q S b (n+1) listed a w:=by
 refine U_first hi hob (Region.noSelect_spec hs) hQ hib ?_ n listed a w hnb (Region.free_spec hi hf) (by simpa using hr) hy hS h
 obtain⟨e,he,h2⟩:=Array.any_eq_true'.1 hw
 exact⟨e,he,by simpa using h2⟩
theorem uop {o:Oper}{i:Nat}{a:Act}{w:World}{K:Act→World→Prop}(ho:ops[i]? = some o)(h:if Region.wanted o (yielded ops a.tmps)=true then Oper.wp P o a w K Q else K (a.put o.dst undef) w):wpOp P ops Q i K a w:=by
 unfold wpOp
 simp only[ho]
 split
 ·rename_i hw;rw[if_pos hw] at h;exact .inl h
 ·rename_i hw;rw[if_neg hw] at h;exact h
theorem uq1 {o:Oper}{n:Nat}{listed:Array Bool}{a:Act}{w:World}(i:Nat)
  (h:∀ K':Act→World→Prop,Shut (∀ a w,((listed.setIfInBounds i true).getD b false=false→S w)→wpAnyU P md ops Q S b n (listed.setIfInBounds i true) a w→K' a w)→if Region.wanted o (yielded ops a.tmps)=true then Oper.wp P o a w K' Q else K' (a.put o.dst undef) w)
  (ho:ops[i]? = some o:=by rfl) (hr:Region.ready md ops listed=[i]:=by kernel_rfl):wpAnyU P md ops Q S b (n+1) listed a w:=by
 refine⟨fun h0=>(by rw[hr] at h0;cases h0),fun j hj=>?_⟩
 rw[hr] at hj
 obtain rfl:=List.mem_singleton.1 hj
 exact uop ho (h _ fun a w h1 h2=>⟨h1,h2⟩)
theorem uq2 {o o':Oper}{n:Nat}{listed:Array Bool}{a:Act}{w:World}(i j:Nat)
  (h:∀ K':Act→World→Prop,Shut (∀ a w,((listed.setIfInBounds i true).getD b false=false→S w)→wpAnyU P md ops Q S b n (listed.setIfInBounds i true) a w→K' a w)→if Region.wanted o (yielded ops a.tmps)=true then Oper.wp P o a w K' Q else K' (a.put o.dst undef) w)
  (h':∀ K':Act→World→Prop,Shut (∀ a w,((listed.setIfInBounds j true).getD b false=false→S w)→wpAnyU P md ops Q S b n (listed.setIfInBounds j true) a w→K' a w)→if Region.wanted o' (yielded ops a.tmps)=true then Oper.wp P o' a w K' Q else K' (a.put o'.dst undef) w)
  (ho:ops[i]? = some o:=by rfl) (ho':ops[j]? = some o':=by rfl) (hr:Region.ready md ops listed=[i,j]:=by kernel_rfl):wpAnyU P md ops Q S b (n+1) listed a w:=by
 refine⟨fun h0=>(by rw[hr] at h0;cases h0),fun m hm=>?_⟩
 rw[hr] at hm
 rcases List.mem_cons.1 hm with rfl|hm
 ·exact uop ho (h _ fun a w h1 h2=>⟨h1,h2⟩)
 ·obtain rfl:=List.mem_singleton.1 hm;exact uop ho' (h' _ fun a w h1 h2=>⟨h1,h2⟩)
theorem udone {listed:Array Bool}{a:Act}{w:World}(hr:Region.ready md ops listed=[])(h:Q .normal a w):∀ n,wpAnyU P md ops Q S b n listed a w
 | 0=>⟨hr,h⟩
 | _+1=>⟨fun _=>h,by rw[hr];simp⟩
theorem wp_region_U {id:Nat}{a:Act}{w:World}(b:Nat)(S:World→Prop)(hm:P.follows .mixedOrders=true)(h:wpAnyU P .any ops Q S b ops.size (Array.replicate ops.size false) a w.drew):(Code.region id ops true).wp P Q a w:=
 wp_region_any hm (wpAny_of_U _ _ _ _ h)
end
theorem step_app_row {P:Program}{w:World}{ops:Array Oper}{o:Oper}{a:Act}{K:Act→World→Prop}{Q:Exit→Act→World→Prop}{E:Prop}(hgd:o.guard=none)(s x:Operand)(t:TypeId)
  (ho:o.op=.call { callee:=.builtin .append,args:=#[s,x],argTypes:=#[t,t] })
  (base B2:Nat) (e:TypeId) (i:TypeInfo) (z:Value) (bytes:Nat) (ht:P.underlying t=some (.slice e)) (hi:P.info? e=some i) (hz:i.zero=some z)
  (hsize:i.size=1) (hby:i.bytes=bytes) (hzs:z.cells.size=1)
  (v:Value) (n:Nat) (xs:List Value) (hs:a.eval s=v) (hown:w.ownsRow base e 1 v n xs)
  (v2:Value) (m:Nat) (news:List Value) (hx:a.eval x=v2) (hown2:w.ownsRow B2 e 1 v2 m news) (h1:∀ u ∈ news,u.oneCell'=true)
  (h63:n+m≤maxLen) (hbytes:(n+m) * bytes≤140737488355328) (hbase:base≤w.heap.size)
  (h:∀ v' w',w'.ownsRow base e 1 v' (n+m) (xs++news)→w.grownBy w' v.ownBlock→K (a.put o.dst v') w'):if Region.wanted o (yielded ops a.tmps)=true then Oper.wp P o a w K Q else E:=by
 rcases Nat.eq_zero_or_pos m with rfl|hm
 ·have hw:Region.wanted o (yielded ops a.tmps)=true:=by simp[Region.wanted,hgd]
  rw[if_pos hw];have hnews:news=[]:=List.length_eq_zero_iff.1 (by rw[hown2.1]);subst hnews;obtain⟨ad,k,rfl⟩:=srow_form hown2
  have hk:=h v w (by rw[List.append_nil];exact hown) ⟨rfl,rfl,rfl,Nat.le_refl _,fun _ _ _=>rfl⟩
  have hrun:=run_app_none (P:=P) (w:=w) base t o.type e i 1 ht hi v n xs hown ad k;unfold Oper.wp;simp[execOp,ho,resolve,invoke,builtin,hs,hx,hrun,Result.andThen];exact hk
 ·obtain⟨g,cap,rfl,_,_⟩:=hown2.form hm
  refine step_append_lies w hgd s x t ho base e i z 1 bytes ht hi hz hsize hby hzs (by decide) v n xs hs hown ⟨g,0,none⟩ m cap news hx hown2.1 (fun j u hj=>?_) h1 hm h63 hbytes hbase _ rfl (fun g' cap' w' a b _ _=>h _ _ a b)
  exact zbfh
section
variable {P:Program} {md:Region.Mode} {ops:Array Oper} {Q:Exit→Act→World→Prop} {S:World→Prop} {b:Nat}
def depB (md:Region.Mode)(ops:Array Oper):Nat→Nat→Nat→Bool
 | 0,_,_=>false
 | n+1,b,i=>match ops[b]? with
  | none=>false
  | some ob=>ob.after.any fun e=>Region.binds md e&&(e.on==i||depB md ops n e.on i)
def Closed (md:Region.Mode)(ops:Array Oper)(listed:Array Bool):Prop:=∀ (j:Nat) (oj:Oper),ops[j]? = some oj→listed.getD j false=true→∀ e ∈ oj.after,Region.binds md e=true→listed.getD e.on false=true
theorem closed_dep {listed:Array Bool}{i:Nat}(hc:Closed md ops listed):∀ (n j:Nat) (oj:Oper),ops[j]? = some oj→(∀ e ∈ oj.after,Region.binds md e=true→listed.getD e.on false=true)→depB md ops n j i=true→listed.getD i false=true
 | 0,_,_,_,_,h=>by cases h
 | n+1,j,oj,ho,hall,h=>by
  rw[depB,ho] at h;obtain⟨e,he,h2⟩:=Array.any_eq_true'.1 h;rw[Bool.and_eq_true,Bool.or_eq_true] at h2;have h3:=hall e he h2.1
  rcases h2.2 with h4|h4
  ·rw[←eq_of_beq h4];exact h3
  ·
   cases hoe:ops[e.on]? with
   | none=>
    cases n with
    | zero=>cases h4
    | succ n=>rw[depB,hoe] at h4;cases h4
   | some oe=>exact closed_dep hc n e.on oe hoe (hc e.on oe hoe h3) h4
theorem getD_set_mono {listed:Array Bool}{j k:Nat}(h:listed.getD k false=true):(listed.setIfInBounds j true).getD k false=true:=by
 by_cases hjk:j=k
 ·subst hjk;have hl:j<listed.size:=by
   rcases Nat.lt_or_ge j listed.size with hl|hl
   ·exact hl
   ·rw[Array.getD_eq_getD_getElem?,Array.getElem?_eq_none hl] at h;cases h
  simp[hl]
 ·rw[getD_set_ne false hjk];exact h
theorem closed_set {listed:Array Bool}{j:Nat}{oj:Oper}(hc:Closed md ops listed)(ho:ops[j]? = some oj)(hall:∀ e ∈ oj.after,Region.binds md e=true→listed.getD e.on false=true):Closed md ops (listed.setIfInBounds j true):=by
 intro m om hm hl e he hb
 refine getD_set_mono ?_
 by_cases hjm:j=m
 ·subst hjm;rw[ho] at hm;cases hm;exact hall e he hb
 ·rw[getD_set_ne false hjm] at hl;exact hc m om hm hl e he hb
def closedB (md:Region.Mode)(ops:Array Oper)(listed:Array Bool):Bool:=(List.range ops.size).all fun j=>!(listed.getD j false)||(match ops[j]? with|some o=>o.after.all fun e=>!(Region.binds md e)||listed.getD e.on false|none=>true)
theorem closed_of {listed:Array Bool}(h:closedB md ops listed=true):Closed md ops listed:=by
 intro j oj ho hl e he hb
 have hj:j<ops.size:=(Array.getElem?_eq_some_iff.1 ho).1
 have h1:=List.all_eq_true.1 h j (List.mem_range.2 hj)
 rw[hl,ho] at h1
 simp only[Bool.not_true,Bool.false_or] at h1
 have h2:=Array.all_eq_true'.1 h1 e he
 rw[hb] at h2
 simpa using h2
open zrqeb in
theorem U_firstC {i k:Nat}{oi:Oper}{v:Value}(hi:ops[i]? = some oi)(hsel:∀ (j:Nat) (o:Oper) cs c,ops[j]? = some o→o.op≠.select cs c)
  (hQ:∀ c a w,Q (.panic c) (a.put oi.dst v) w→Q (.panic c) a w) (hib:i≠b) (hw:depB md ops k b i=true) :
  ∀ (n:Nat) (listed:Array Bool) (a:Act) (w:World),listed.getD b false=false→Closed md ops listed →
   (∀ j oj,ops[j]? = some oj→j≠i→listed.getD j true=false→(∀ e ∈ oj.after,Region.binds md e=true→e.on≠i)→oi.apart ops oj=true) →
   i ∈ Region.ready md ops listed→YieldsIf P ops S oi v a→S w →
   wpAnyU P md ops Q S b n (listed.setIfInBounds i true) (a.put oi.dst v) w→wpAnyU P md ops Q S b (n+1) listed a w:=by
 exact zref
theorem uc {oi:Oper}{n:Nat}{listed:Array Bool}{a:Act}{w:World}(i:Nat)(v:Value)(hi:ops[i]? = some oi)(hy:YieldsIf P ops S oi v a)(hS:S w)
  (h:wpAnyU P md ops Q S b n (listed.setIfInBounds i true) (a.put oi.dst v) w) (hQ:∀ c a w,Q (.panic c) (a.put oi.dst v) w→Q (.panic c) a w:=by exact fun _ _ _ h=>h)
  (hs:Region.noSelect ops=true:=by kernel_rfl) (hf:Region.free md ops listed i=true:=by kernel_rfl) (hr:(Region.ready md ops listed).contains i=true:=by kernel_rfl)
  (hib:i≠b:=by decide) (hw:depB md ops ops.size b i=true:=by kernel_rfl) (hcl:closedB md ops listed=true:=by kernel_rfl) (hnb:listed.getD b false=false:=by kernel_rfl):wpAnyU P md ops Q S b (n+1) listed a w:=
 U_firstC hi (Region.noSelect_spec hs) hQ hib hw n listed a w hnb (closed_of hcl) (Region.free_spec hi hf) (by simpa using hr) hy hS h
end
theorem info116:(Tryz.prog.info? 116).map (fun i=>(i.zero,i.size,i.bytes))=some (some (.agg #[.int .i64 0,.slice none 0 0,.bool false]),3,40):=by kernel_rfl
theorem owns_low3 {w:World}{B C n:Nat}{v:Value}{xs:List Value}(h:w.ownsRow B 116 3 v n xs)(hc:C≤B):w.ownsRow C 116 3 v n xs:=by
 exact zbgl
theorem empty_row (B:Nat)(X:World)(h:B≤X.heap.size):(X.alloc (.cells #[] 116)).ownsRow B 116 3 (.slice (some ⟨X.heap.size,0,none⟩) 0 0) 0 []:=
 ⟨rfl,Or.inr ⟨X.heap.size,0,#[],rfl,h,heap_new _ _,Nat.le_refl _,by decide,rfl,rfl⟩⟩
theorem row_news {B n:Nat}{X:World}{g cap:Nat}{xs:List Value}(h:X.ownsRow B 116 3 (.slice (some ⟨g,0,none⟩) n cap) n xs):∀ j u,xs[j]? = some u→X.cell? ((⟨g,0,none⟩:Addr).add j)=some u:=fun j u hj=>by
 have hl:j<n * 3:=by rw[←h.1];exact(List.getElem?_eq_some_iff.1 hj).1
 have h4:(⟨g,0,none⟩:Addr).add j=⟨g,j,none⟩:=by unfold Addr.add;split <;> simp_all
 rw[h4,h.cellAt j hl]
 exact hj
section
variable (o:Int) (na:Option Addr) (nl nc:Nat) (b:Bool)
include o na nl nc b
theorem three_ones:∀ u ∈ [Value.int .i64 o,.slice na nl nc,.bool b],u.oneCell'=true:=by
 intro u hu
 simp only[List.mem_cons,List.not_mem_nil,or_false] at hu
 rcases hu with rfl|rfl|rfl <;> rfl
theorem put_any (v:Value)(n:Nat)(xs:List Value)(rb:Nat)(w:World)(hc:w.cell? ⟨rb,0,none⟩=some v)(hown:w.ownsRow 0 116 3 v n xs)(hn:0<n)(hn2:n≤50000)(hx:∀ u ∈ xs,u.oneCell'=true) :
  Calls Tryz.prog 71 #[.agg #[.int .i64 o,.slice na nl nc,.bool b],.pointer (some ⟨rb,0,none⟩)] w fun e w'=>
   (∃ v',e=.returned v'∧w'.ownsRow w.heap.size 116 3 v' (n+1) (xs++[.int .i64 o,.slice na nl nc,.bool b]))∧Below w.heap.size w w':=by
 obtain⟨i0,hi0,hz0,hz1,hz2⟩:=info_parts info116
 have HO:=hide hown
 have HX:=hide hx
 obtain⟨g,cap,rfl,_,_⟩:=hown.form hn
 have hrl:rb<w.heap.size:=cell_lt hc
 have hb0:Below w.heap.size w (w.alloc (.cells #[.int .i64 o,.slice na nl nc,.bool b] 116)):=(Below.refl _ _).alloc (Nat.le_refl _) _
 obtain⟨w0,hw0⟩:∃ w0,w0=w.alloc (.cells #[.int .i64 o,.slice na nl nc,.bool b] 116):=⟨_,rfl⟩
 have hr0:w0.heap[w.heap.size]? = some (.cells #[.int .i64 o,.slice na nl nc,.bool b] 116 (0,0)):=by rw[hw0];exact heap_new _ _
 have hcr:=keepC hb0 hc
 rw[←hw0] at hb0 hcr
 have HB0:=hide hb0
 have HR0:=hide hr0
 have HCR:=hide hcr
 clear hown hx
 go_enter Tryz.func71,Tryz.ntmps71
 go_wp2_with fail
 rw[←hw0]
 have hS0:Below w0.heap.size w0 w0.drew:=(Below.refl _ _).drew
 have hs0:w0.heap.size=w.heap.size+1:=by rw[hw0];simp
 refine wp_region_U 6 (fun X=>Below w0.heap.size w0 X) (by kernel_rfl) ?_
 obtain⟨X,hX⟩:∃ X,X=w0.drew:=⟨_,rfl⟩
 have hXs:X.heap.size=w0.heap.size:=by rw[hX];rfl
 rw[←hX] at hS0 ⊢
 clear hX hw0 hb0 hr0 hcr
 have HS0:=hide hs0
 have HXS:=hide hXs
 clear hs0 hXs
 have hcell:w0.cell? ⟨w.heap.size,0,none⟩=some (.int .i64 o)∧w0.cell? ⟨w.heap.size,1,none⟩=some (.slice na nl nc)∧w0.cell? ⟨w.heap.size,2,none⟩=some (.bool b):=by
  refine⟨?_,?_,?_⟩ <;> rw[cell_of HR0.out] <;> rfl
 have HCL:=hide hcell
 clear hcell
 have HOX:Hid (∀ Y,Below w0.heap.size w0 Y→Y.ownsRow 0 116 3 (.slice (some ⟨g,0,none⟩) n cap) n xs):=fun Y hY=>
  owns_stay (I:=fun _=>True) (fun b _ hl=>hY.block b hl) (fun _ _=>trivial) (owns_stay (I:=fun _=>True) (fun b _ hl=>HB0.out.block b hl) (fun _ _=>trivial) HO.out)
 refine ug 1 (.slice (some ⟨g,0,none⟩) n cap) rfl (Or.inl ⟨by kernel_rfl,fun Y hY=>by have h0:=keepC hY HCR.out;go_simp⟩) hS0 ?_
 refine ug 3 (.agg #[.int .i64 o,.slice na nl nc,.bool b]) rfl (Or.inl ⟨by kernel_rfl,fun Y hY=>by have h0:=keepC hY HCL.out.1;have h1:=keepC hY HCL.out.2.1;have h2:=keepC hY HCL.out.2.2;go_simp⟩) hS0 ?_
 refine uq2 0 4 (fun K hK=>?_) (fun K hK=>?_)
 ·go_simp;have hE:(X.alloc (.cells #[] 116)).ownsRow w0.heap.size 116 3 (.slice (some ⟨X.heap.size,0,none⟩) 0 0) 0 []:=empty_row _ X hS0.size
  have hS1:Below w0.heap.size w0 (X.alloc (.cells #[] 116)):=hS0.alloc hS0.size _;refine hK.out _ _ (fun _=>hS1) ?_;clear hK K;obtain⟨ge,hge⟩:∃ ge,ge=X.heap.size:=⟨_,rfl⟩
  obtain⟨Y,hY⟩:∃ Y,Y=X.alloc (.cells #[] 116):=⟨_,rfl⟩;have HYS:Hid (ge<Y.heap.size∧w0.heap.size≤ge):=by
   show _∧_
   rw[hY,hge];exact⟨by simp,hS0.size⟩
  rw[←hY] at hE hS1 ⊢;rw[←hge] at hE ⊢;clear hY hge hS0;refine uq2 2 4 (fun K hK=>?_) (fun K hK=>?_)
  ·refine step_append_lies _ rfl _ _ 114 rfl w0.heap.size 116 i0 (.agg #[.int .i64 0,.slice none 0 0,.bool false]) 3 40 Tryz.underlying114 hi0 hz0 hz1 hz2 rfl (by decide) _ _ _ rfl hE ⟨g,0,none⟩ n cap xs rfl (unhide HOX _ hS1).1 (row_news (unhide HOX _ hS1)) HX.out hn (by unfold maxLen;omega) (by omega) hS1.size _ rfl ?_
   intro g1 c1 Z1 hrow1 hgr1 hg1 _;simp only[Nat.zero_add,List.nil_append] at hrow1 ⊢;have hS2:Below w0.heap.size w0 Z1:=hS1.trans ((Below.refl w0.heap.size _).grown hgr1 hS1.size (fun k hk=>(own_lt hE k hk).2))
   refine hK.out _ _ (fun _=>hS2) ?_;clear hK K hgr1 hg1 hE hS1;refine uq1 4 fun K hK=>?_;go_simp
   have hN:(Z1.alloc (.cells #[.int .i64 o,.slice na nl nc,.bool b] 116)).heap[Z1.heap.size]? = some (.cells #[.int .i64 o,.slice na nl nc,.bool b] 116 (0,0)):=heap_new _ _
   have hS3:Below w0.heap.size w0 (Z1.alloc (.cells #[.int .i64 o,.slice na nl nc,.bool b] 116)):=hS2.alloc hS2.size _;have hrow2:=hrow1.alloc (.cells #[.int .i64 o,.slice na nl nc,.bool b] 116)
   refine hK.out _ _ (fun _=>hS3) ?_;clear hK K;obtain⟨gn,hgn⟩:∃ gn,gn=Z1.heap.size:=⟨_,rfl⟩;obtain⟨Z2,hZ2⟩:∃ Z2,Z2=Z1.alloc (.cells #[.int .i64 o,.slice na nl nc,.bool b] 116):=⟨_,rfl⟩
   rw[←hZ2] at hN hS3 hrow2 ⊢;rw[←hgn] at hN ⊢;clear hZ2 hgn hrow1 hS2;refine uq1 5 fun K hK=>?_
   refine step_append_lies _ rfl _ _ 114 rfl w0.heap.size 116 i0 (.agg #[.int .i64 0,.slice none 0 0,.bool false]) 3 40 Tryz.underlying114 hi0 hz0 hz1 hz2 rfl (by decide) _ _ _ rfl hrow2 ⟨gn,0,none⟩ 1 1 [.int .i64 o,.slice na nl nc,.bool b] rfl rfl (World.news_of_block hN) (three_ones o na nl nc b) (by decide) (by unfold maxLen;omega) (by omega) hS3.size _ rfl ?_
   intro g5 c5 Z5 hrow5 hgr5 hg5 _;have hS5:Below w0.heap.size w0 Z5:=hS3.trans ((Below.refl w0.heap.size _).grown hgr5 hS3.size (fun k hk=>(own_lt hrow2 k hk).2));exact zbbm
  ·go_simp;have hN:(Y.alloc (.cells #[.int .i64 o,.slice na nl nc,.bool b] 116)).heap[Y.heap.size]? = some (.cells #[.int .i64 o,.slice na nl nc,.bool b] 116 (0,0)):=heap_new _ _
   have hS3:Below w0.heap.size w0 (Y.alloc (.cells #[.int .i64 o,.slice na nl nc,.bool b] 116)):=hS1.alloc hS1.size _;have hE2:=hE.alloc (.cells #[.int .i64 o,.slice na nl nc,.bool b] 116)
   refine hK.out _ _ (fun _=>hS3) ?_;clear hK K;obtain⟨gn,hgn⟩:∃ gn,gn=Y.heap.size:=⟨_,rfl⟩;obtain⟨Z2,hZ2⟩:∃ Z2,Z2=Y.alloc (.cells #[.int .i64 o,.slice na nl nc,.bool b] 116):=⟨_,rfl⟩
   have hgn1:gn<Z2.heap.size∧gn≠ge:=by rw[hZ2,hgn];exact⟨by simp,by have:=HYS.out.1;omega⟩
   rw[←hZ2] at hN hS3 hE2 ⊢;rw[←hgn] at hN ⊢;have HGN:=hide hgn1;clear hZ2 hgn hE hS1 hgn1;refine uq1 2 fun K hK=>?_
   refine step_append_lies _ rfl _ _ 114 rfl w0.heap.size 116 i0 (.agg #[.int .i64 0,.slice none 0 0,.bool false]) 3 40 Tryz.underlying114 hi0 hz0 hz1 hz2 rfl (by decide) _ _ _ rfl hE2 ⟨g,0,none⟩ n cap xs rfl (unhide HOX _ hS3).1 (row_news (unhide HOX _ hS3)) HX.out hn (by unfold maxLen;omega) (by omega) hS3.size _ rfl ?_
   intro g1 c1 Z1 hrow1 hgr1 hg1 _;simp only[Nat.zero_add,List.nil_append] at hrow1 ⊢;have hgr2:World.grownBy Z2 Z1 (some ge):=hgr1
   have hS4:Below w0.heap.size w0 Z1:=hS3.trans ((Below.refl w0.heap.size _).grown hgr1 hS3.size (fun k hk=>(own_lt hE2 k hk).2))
   have hN4:Z1.heap[gn]? = some (.cells #[.int .i64 o,.slice na nl nc,.bool b] 116 (0,0)):=(hgr2.block gn HGN.out.1 (by simpa using HGN.out.2)).trans hN;refine hK.out _ _ (fun _=>hS4) ?_
   clear hK K hgr1 hgr2 hg1 hE2 hS3 hN;exact zcap
 ·go_simp;have hN:(X.alloc (.cells #[.int .i64 o,.slice na nl nc,.bool b] 116)).heap[X.heap.size]? = some (.cells #[.int .i64 o,.slice na nl nc,.bool b] 116 (0,0)):=heap_new _ _
  have hS1:Below w0.heap.size w0 (X.alloc (.cells #[.int .i64 o,.slice na nl nc,.bool b] 116)):=hS0.alloc hS0.size _;refine hK.out _ _ (fun _=>hS1) ?_;clear hK K
  obtain⟨gn,hgn⟩:∃ gn,gn=X.heap.size:=⟨_,rfl⟩;obtain⟨Y,hY⟩:∃ Y,Y=X.alloc (.cells #[.int .i64 o,.slice na nl nc,.bool b] 116):=⟨_,rfl⟩;have hgn1:gn<Y.heap.size:=by rw[hY,hgn];simp
  rw[←hY] at hN hS1 ⊢;rw[←hgn] at hN ⊢;have HGN:=hide hgn1;clear hY hgn hS0 hgn1;refine uq1 0 fun K hK=>?_;go_simp
  have hE:(Y.alloc (.cells #[] 116)).ownsRow w0.heap.size 116 3 (.slice (some ⟨Y.heap.size,0,none⟩) 0 0) 0 []:=empty_row _ Y hS1.size
  have hS2:Below w0.heap.size w0 (Y.alloc (.cells #[] 116)):=hS1.alloc hS1.size _
  have hN2:(Y.alloc (.cells #[] 116)).heap[gn]? = some (.cells #[.int .i64 o,.slice na nl nc,.bool b] 116 (0,0)):=(Below.heap_alloc Y _ gn HGN.out).trans hN;refine hK.out _ _ (fun _=>hS2) ?_;clear hK K
  obtain⟨ge,hge⟩:∃ ge,ge=Y.heap.size:=⟨_,rfl⟩;obtain⟨Z2,hZ2⟩:∃ Z2,Z2=Y.alloc (.cells #[] 116):=⟨_,rfl⟩
  have hne:gn<Z2.heap.size∧gn≠ge:=by rw[hZ2,hge];exact⟨by simp;have:=unhide HGN;omega,by have:=unhide HGN;omega⟩
  rw[←hZ2] at hE hS2 hN2 ⊢;rw[←hge] at hE ⊢;have HNE:=hide hne;clear hZ2 hge hS1 hN hne;refine uq1 2 fun K hK=>?_
  refine step_append_lies _ rfl _ _ 114 rfl w0.heap.size 116 i0 (.agg #[.int .i64 0,.slice none 0 0,.bool false]) 3 40 Tryz.underlying114 hi0 hz0 hz1 hz2 rfl (by decide) _ _ _ rfl hE ⟨g,0,none⟩ n cap xs rfl (unhide HOX _ hS2).1 (row_news (unhide HOX _ hS2)) HX.out hn (by unfold maxLen;omega) (by omega) hS2.size _ rfl ?_
  intro g1 c1 Z1 hrow1 hgr1 hg1 _;simp only[Nat.zero_add,List.nil_append] at hrow1 ⊢;have hgr2:World.grownBy Z2 Z1 (some ge):=hgr1
  have hS4:Below w0.heap.size w0 Z1:=hS2.trans ((Below.refl w0.heap.size _).grown hgr1 hS2.size (fun k hk=>(own_lt hE k hk).2))
  have hN4:Z1.heap[gn]? = some (.cells #[.int .i64 o,.slice na nl nc,.bool b] 116 (0,0)):=(hgr2.block gn HNE.out.1 (by simpa using HNE.out.2)).trans hN2;refine hK.out _ _ (fun _=>hS4) ?_
  clear hK K hgr1 hgr2 hg1 hE hS2 hN2;exact zcap
end
end Go.Proofs.YtoimgcjbcbhclaaGreatDoor
