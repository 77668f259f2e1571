/-
  Parts of proofs that stand more than once.
-/
import Derived.Test.YtoimgcjbcbhclaaGreatDoorWt13
set_option maxRecDepth 100000
set_option maxHeartbeats 16000000
namespace Go.Proofs.YtoimgcjbcbhclaaGreatDoor
open Go.RowKit
theorem zbau {G:Prop}(h:G:=by
  rw[hf] at HF HVW;have HC:=hide (unhide HF W1 HW1.out);go_wp2_with fail;refine cm HC.out ?_;rintro e w3 ⟨rfl,rfl⟩;clear HC;have HC2:=hide (unhide HI w3 (HN.out.later HW1.out));go_wp2_with fail
  refine cm HC2.out ?_;rintro e w4 ⟨⟨u4,rfl,hr4⟩,hb4⟩;obtain⟨R,hR⟩:∃ R,R=varsT x:=⟨_,rfl⟩;rw[←hR] at hr4 hvk;obtain⟨a4,c4,rfl⟩:=srow_form hr4;have HR4:=hide hr4
  have HO4:=hide (SRow.later HO1.out hb4);have HB4:=hide (HB1.out.trans (hb4.mono HB1.out.size));have HFO:Hid ((vw x).foldl addB L=R.foldl addB L1):=by
   show _=_
   rw[HVW.out,HOV.out,hR,varsT,fold_once,List.foldl_append,HLL.out];rfl
  clear HC2 hr4 hb4 hR hcc q0 q1;go_wp2_with fail
  go_loopw [3,36] (fun o j wr2=>∃ i:Nat,i≤R.length∧j=.int .i64 i∧SRow w.heap.size wr2 o ((R.take i).foldl addB L1)∧Below w4.heap.size w4 wr2) (fun _ j _=>R.length - (intOf j).toNat)
  case atStart=>exact⟨0,Nat.zero_le _,rfl,HO4.out,Below.refl _ _⟩
  case round=>
   obtain⟨i,hi,rfl,hown,hbel⟩:=hrel;have HOWN2:=hide hown;have HB5:=hide hbel;obtain⟨ob,od,rfl⟩:=srow_form hown;clear hown hbel;have HBW:=hide (HB4.out.trans (HB5.out.mono HB4.out.size))
   by_cases hli:i<R.length
   ·obtain⟨g4,cp4,hv,hg4,_,hc4⟩:=srow_cell (SRow.later HR4.out HB5.out) i hli;simp only[Value.slice.injEq] at hv;obtain⟨rfl,_,rfl⟩:=hv;have hii:(i:Int)<(R.length:Int):=by omega
    have hfl:((R.take i).foldl addB L1).length≤60000:=by
     have h1:=fold_len (R.take i) L1;rw[List.length_take] at h1;omega
    have HTK:Hid ((R.take (i+1)).foldl addB L1=addB ((R.take i).foldl addB L1) R[i]):=by
     show _=_
     rw[List.take_succ_eq_append_getElem hli,List.foldl_append];rfl
    have HC:=hide (radd_any ((R.take i).foldl addB L1) R[i] _ _ HOWN2.out (by omega) HBW.out.size)
    generalize R[i]=y at hc4 HC HTK
    generalize (R.take i).foldl addB L1=M at HC HTK HOWN2 hfl
    go_wp2_with fail;refine cm HC.out ?_;rintro e w6 ⟨⟨u6,rfl,hr6⟩,hb6⟩;obtain⟨a6,c6,rfl⟩:=srow_form hr6;have HR6:=hide hr6;have HB6:=hide (HB5.out.trans (hb6.mono HB5.out.size));clear HC hr6 hb6
    go_wp2_with fail
    go_roundw
    case rel=>exact⟨i+1,by omega,by go_num,by rw[HTK.out];exact HR6.out,HB6.out⟩
    case measure=>simp[intOf];omega
   ·have hii:i=R.length:=by omega
    subst hii;go_wp2_with fail
    go_roundw
    case rel=>
     refine⟨k+1,by omega,by go_num,?_,HBW.out⟩;rw[HST.out,HFO.out];have h:=unhide HOWN2;rw[List.take_length] at h;rw[List.take_length];exact h
    case measure=>simp[intOf];omega
 ):G:=h
theorem zbav {G:Prop}(h:G:=by
  go_wp2_with fail
  go_loopw [3,8] (fun o i wr=>∃ k:Nat,k≤ts.length∧i=.int .i64 k∧SRow w.heap.size wr o ((ts.take k).map Tr.tx)∧Below w.heap.size w wr) (fun _ i _=>ts.length - (intOf i).toNat)
  case atStart=>exact⟨0,Nat.zero_le _,rfl,srow_nil _ _,Below.refl _ _⟩
  case round=>
   obtain⟨k,hk,rfl,hown,hbel⟩:=hrel;have HOWN:=hide hown;have HBEL:=hide hbel;obtain⟨oa,oc,rfl⟩:=srow_form hown;clear hown hbel
   by_cases hlt:k<ts.length
   ·obtain⟨g,cap,q,hv,hg,hc,hn⟩:=(HR.out.later HBEL.out).cell k hlt;simp only[Value.slice.injEq] at hv;obtain⟨rfl,_,rfl⟩:=hv;obtain⟨hql,_,c1,_⟩:=hn.cells
    have hki:(k:Int)<(ts.length:Int):=by omega
    obtain⟨x,hx⟩:∃ x,x=(ts[k]).tx:=⟨_,rfl⟩;rw[←hx] at c1;have HX:=hide hx;have hsz:=HBEL.out.size;obtain⟨L,hL⟩:∃ L,L=(ts.take k).map Tr.tx:=⟨_,rfl⟩
    have hLl:L.length=k:=by rw[hL];simp;omega
    have HL:=hide hL;rw[←hL] at HOWN ⊢;have HOW2:Hid (World.ownsRow wr w.heap.size 9 1 (.slice oa k oc) k (L.map Value.string)):=by
     have h:World.ownsRow wr w.heap.size 9 1 (.slice oa L.length oc) L.length (L.map Value.string):=unhide HOWN;rw[hLl] at h;exact h
    rw[hLl];have HLL:=hide hLl;clear hx hn HOWN hL hLl
    go_wp2_with (at_builtin;refine wpList_append_lies _ rfl _ _ 38 rfl w.heap.size 9 i0 (.string ByteArray.empty) 1 16 Tryz.underlying38 hi0 hz0 hz1 hz2 rfl (by decide) _ _ _ rfl (HOW2.out.alloc _) ⟨wr.heap.size,0,none⟩ 1 1 [.string x] rfl rfl (hoCellsS wr x _ rfl) (hoOneS x) (by decide) (by unfold maxLen;omega) (by omega) (by simp;omega) (wr.heap.size+1) (by simp) ?_)
    intro g' cap' w3 hown' hgrow hg' _;have HB3:=hide ((HBEL.out.alloc hsz (.cells #[.string x] 9)).grown hgrow (by simp;omega) (fun b hb=>(own_lt HOW2.out b hb).2))
    have HO3:=hide hown';clear hown' hgrow hg';go_wp2_with fail
    go_roundw
    case rel=>
     refine⟨k+1,by omega,by go_num,?_,HB3.out⟩;rw[List.take_succ_eq_append_getElem hlt,List.map_append,←HL.out]
     show World.ownsRow _ _ _ _ _ _ _
     rw[List.length_append,List.map_append,HLL.out]
     show World.ownsRow _ _ _ _ _ _ (_++[Value.string (ts[k]).tx])
     rw[←HX.out];exact unhide HO3
    case measure=>simp[intOf];omega
   ·have hkk:k=ts.length:=by omega
    subst hkk;go_wp2_with fail;go_ret;refine⟨⟨_,rfl,?_⟩,HBEL.out⟩;exact zcbo
 ):G:=h
theorem zbaw {G:Prop}(h:G:=by
  go_wp2_with fail;refine(fail_any _ _ _).mono ?_;rintro e4 w4 ⟨b,rfl,hb,hlb,hbel2⟩;have hbelA:=HB.out.trans (hbel2.mono hsz);have hbelB:Below (w.alloc O35).heap.size (w.alloc O35) w4:=by simpa using hbelA
  obtain⟨hc,hf⟩:=bcell hbelB;have HBB:=hide hb;have HBEL2:=hide hbelB;have hlb2:(w.alloc O35).heap.size≤b:=by simp;omega
  clear hb hbelA hbelB hbel2 hlb;go_wp2_with fail
  exact bodyPost_ret (v:=.tuple #[noTok,.int .i64 0,.iface 144 (.pointer (some ⟨b,0,none⟩))]) (by simp[results,Tryz.results160,go_sem,hc]) rfl ⟨b,rfl,bad_end HBEL2.out hlb2 HBB.out _ _ _ _⟩
 ):G:=h
theorem zbax {G:Prop}(h:G:=by
  rw[hr] at HC HS;simp only[bind_bad] at HS;exact zcck
 ):G:=h
theorem zbay {G:Prop}(h:G:=by
  have nb:=(ha2.block _ (lt_of_heap HNB.out) (by have:=unhide HLT;omega)).trans HNB.out
  obtain⟨c0,c1,c2,c3,cf⟩:=node_cells nb;have cf3:=cf 3;have hnl:=lt_of_heap nb;have hA:=HA0.out.next ha2
  have HB:Hid (Below w.heap.size wv ((wv.setCell ⟨w.heap.size,3,none⟩ (.slice (some ⟨wv.heap.size,0,none⟩) 2 2)).alloc (.cells #[nPtr q,nPtr q2] 22))):=((Below.refl w.heap.size wv).setCell (p:=⟨w.heap.size,3,none⟩) (Nat.le_refl _) _).alloc (by simp;omega) _
  have HA:=hide (hA.trans (Ap.of HB.out));have HP:=hide (hp2.ap HB.out HLO.out);clear hp2 ha2 HC2 nb hA;go_wp2_with fail;go_ret;exact⟨⟨_,rfl,_,rfl⟩,⟨j2,HP.out⟩,he,HA.out⟩
 ):G:=h
theorem zbaz {G:Prop}(h:G:=by
  exact zcbp
 ):G:=h
theorem zbba {G:Prop}(h:G:=by
  refine hK _ _ ?_;clear hK K;refine wr2 4 9 (fun K hK=>?_) fun K hK=>?_
  ·go_simp;refine hK _ _ ?_;clear hK K;refine wr1 9 fun K hK=>?_;go_simp;refine hK _ _ ?_;clear hK K;refine wt 10 (.agg #[.int .i64 13,.string s,.int .i64 0,.slice (some ⟨wc.heap.size,0,none⟩) 1 1]) ?_
   refine wr1 11 fun K hK=>?_;exact zdaj
  ·go_simp;refine hK _ _ ?_;clear hK K;refine wt 10 (.agg #[.int .i64 13,.string s,.int .i64 0,.slice (some ⟨wc.heap.size,0,none⟩) 1 1]) ?_;refine wr2 4 11 (fun K hK=>?_) fun K hK=>?_
   ·go_simp;refine hK _ _ ?_;clear hK K;refine wr1 11 fun K hK=>?_;exact zdaj
   ·go_simp;refine hK _ _ ?_;clear hK K;refine wr2 4 12 (fun K hK=>?_) fun K hK=>?_
    ·exact zdaj
    ·go_simp;refine hK _ _ ?_;clear hK K;refine wr1 4 fun K hK=>?_;exact zcaj
 ):G:=h
theorem zbbb {G:Prop}(h:G:=by
  obtain⟨k,hk,rfl,hown,hbel⟩:=hrel;have HOWN:=hide hown;have HB5:=hide hbel;obtain⟨oa,oc,rfl⟩:=srow_form hown;clear hown hbel;have HBW:=hide (HB4.out.trans (HB5.out.mono HB4.out.size))
  by_cases hlt:k<NL.length
  ·obtain⟨g,cap,q,hv,hg,hcc,hn⟩:=((HRW.out.later HB5.out).row HBW.out).cell k hlt;simp only[Value.slice.injEq] at hv;obtain⟨rfl,_,rfl⟩:=hv;obtain⟨hql,_,q1,_⟩:=hn.cells
   have hki:(k:Int)<(NL.length:Int):=by omega
   have hfl2:(((NL.take k).map Tr.tx).foldl addB V).length≤70000:=by
    have h1:=fold_len ((NL.take k).map Tr.tx) V;rw[List.length_map,List.length_take] at h1;omega
   have HTK:Hid (((NL.take (k+1)).map Tr.tx).foldl addB V=addB (((NL.take k).map Tr.tx).foldl addB V) (NL[k]).tx):=by
    show _=_
    rw[List.take_succ_eq_append_getElem hlt,List.map_append,List.foldl_append];rfl
   have HC:=hide (radd_any (((NL.take k).map Tr.tx).foldl addB V) (NL[k]).tx _ wr HOWN.out (by omega) HBW.out.size)
   generalize (NL[k]).tx=y at q1 HC HTK
   generalize ((NL.take k).map Tr.tx).foldl addB V=M at HC HTK HOWN hfl2
   clear hn;go_wp2_with fail;refine cm HC.out ?_;rintro e w6 ⟨⟨u6,rfl,hr6⟩,hb6⟩;obtain⟨a6,c6,rfl⟩:=srow_form hr6;have HR6:=hide hr6;have HB6:=hide (HB5.out.trans (hb6.mono HB5.out.size));exact zccf
  ·have hii:k=NL.length:=by omega
   subst hii;go_wp2_with fail;go_ret;refine⟨⟨_,rfl,?_⟩,HBW.out⟩;exact zcbo
 ):G:=h
theorem zbbc {G:Prop}(h:G:=by
  refine hK _ _ ?_;clear hK K;refine wr1 9 fun K hK=>?_;go_simp;refine hK _ _ ?_;clear hK K;refine wpAny_same (listed':=tf 10 4) (by kernel_rfl) rfl ?_;exact CONT wc pc HY.out
 ):G:=h
theorem zbbd {G:Prop}(h:G:=by
  refine hK _ _ ?_;clear hK K;refine wr1 8 fun K hK=>?_;go_simp;refine hK _ _ ?_;clear hK K;refine wt 9 (.agg #[.int .i64 14,.string noText,.int .i64 0,.slice (some ⟨wc.heap.size,0,none⟩) 1 1]) ?_
  refine wr1 10 fun K hK=>?_;go_simp;refine hK _ _ ?_;clear hK K;refine wr1 11 fun K hK=>?_;go_simp;refine hK _ _ ?_;clear hK K;refine wpAny_same (listed':=tf 12 4) (by kernel_rfl) rfl ?_
  exact CONT wc pc HHY.out
 ):G:=h
theorem zbbe {G:Prop}(h:G:=by
  obtain⟨ps,hown,hk4⟩:=unhide HK4;have hlen:=NAts.length _ _ hk4;have hOB:=own_lt hown;rw[hlen] at hown;have HOWN:=hide hown;have HLEN:=hide hlen;have HKK:=hide hk4;have hsz:=HA4.out.size
  have HOB:=hide hOB;clear hown hk4 HK4 hOB hlen
  go_wp2_with (at_builtin;refine wpList_append_lies _ rfl _ _ 46 rfl w.heap.size 22 i0 (.pointer none) 1 8 Tryz.underlying46 hi0 hz0 hz1 hz2 rfl (by decide) _ _ _ rfl (HOWN.out.alloc _) ⟨w4.heap.size,0,none⟩ 1 1 [nPtr p4] rfl rfl (one_cells w4 p4 _ rfl) (one_one p4) (by decide) (by unfold maxLen;omega) (by omega) (by simp;omega) (w4.heap.size+1) (by simp) ?_)
  intro g cap w5 hown' hgrow hg _;have HB5:=hide (((Below.refl w.heap.size w4).alloc hsz (.cells #[nPtr p4] 22)).grown hgrow (by simp;omega) (fun k hk=>(unhide HOB k hk).2))
  have HA5:=hide ((HA4.out.alloc hsz (.cells #[nPtr p4] 22)).grown hgrow (by simp;omega) (fun k hk=>(unhide HOB k hk).2))
  have HP5:Hid (∃ j,Ps c w5 j er (pl:Int)):=by
   obtain⟨j2,hp⟩:=unhide HP4;exact⟨j2,hp.ap HB5.out HLO.out⟩
  have HZ5:Hid (RowZ w.heap.size w5 (.slice (some ⟨g,0,none⟩) (acc.length+1) cap)):=⟨ps++[p4],by have:=unhide HLEN;simp;omega,by have hl:=unhide HLEN;rw[List.length_append,List.length_singleton,hl,List.map_append];exact hown'⟩
  clear hown' hgrow hg HKK HOWN;go_wp2_with fail
  go_roundg k
  case measure=>omega
  case rel=>exact Or.inr ⟨er,pl,HQQ.out,he,HP5.out,HA5.out,HZ5.out⟩
 ):G:=h
theorem zbbf {G:Prop}(h:G:=by
  obtain⟨ps,hown,hk4,hkt⟩:=unhide HN4;have hlen:=NAts.length _ _ hk4;have hOB:=own_lt hown;rw[hlen] at hown;have HOWN:=hide hown;have HLEN:=hide hlen;have HKK:=hide hkt;have hsz:=HA4.out.size
  have HOB:=hide hOB;clear hown hk4 hkt HK4 HN4 hOB hlen
  go_wp2_with (at_builtin;refine wpList_append_lies _ rfl _ _ 46 rfl w.heap.size 22 i0 (.pointer none) 1 8 Tryz.underlying46 hi0 hz0 hz1 hz2 rfl (by decide) _ _ _ rfl (HOWN.out.alloc _) ⟨w4.heap.size,0,none⟩ 1 1 [nPtr p4] rfl rfl (one_cells w4 p4 _ rfl) (one_one p4) (by decide) (by unfold maxLen;omega) (by omega) (by simp;omega) (w4.heap.size+1) (by simp) ?_)
  intro g cap w5 hown' hgrow hg _;have HB5:=hide (((Below.refl w.heap.size w4).alloc hsz (.cells #[nPtr p4] 22)).grown hgrow (by simp;omega) (fun k hk=>(unhide HOB k hk).2))
  have HA5:=hide ((HA4.out.alloc hsz (.cells #[nPtr p4] 22)).grown hgrow (by simp;omega) (fun k hk=>(unhide HOB k hk).2))
  have HK5:Hid (KV w.heap.size w5 (acc++[t]) (.slice (some ⟨g,0,none⟩) (acc.length+1) cap)):=kv_push HKK.out (by rw[List.map_append];exact hown') (by simp[HLEN.out]) hgrow hg
  have HP5:=hide (HP4.out.ap HB5.out HLO.out);have HKW5:=hide (HPC.out.kept _ _ _ HKW4.out HB5.out HLB.out);clear hown' hgrow hg HKK HOWN;go_wp2_with fail
  go_roundg k
  case measure=>omega
  case rel=>exact Or.inl ⟨acc++[t],j2,HQQ.out,HK5.out,HP5.out,HA5.out,by have hh:=unhide HLE8;simp;omega,HKW5.out⟩
 ):G:=h
theorem zbbg {G:Prop}(h:G:=by
  go_simp;refine hK2 _ _ ?_;clear hK2 K2;refine wpAny_ready (rs:=[5]) (by kernel_rfl) (by simp) ?_;refine AllReady.cons rfl (fun K2 hK2=>?_) AllReady.nil
  refine step_append_lies _ (by rfl) _ _ 161 (by rfl) (w.heap.size+1) 167 i0 noTok 4 40 Tryz.underlying161 hi hz0 hz1 hz2 rfl (by decide) v acc.length _ (by rfl) (HI0.out.own.alloc (.cells #[.int .i64 6,.string ⟨#[]⟩,.int .i64 0,.int .i64 (s.size:Int)] 167)) ⟨W0.heap.size,0,none⟩ 1 1 [.int .i64 6,.string ⟨#[]⟩,.int .i64 0,.int .i64 (s.size:Int)] (by rfl) (by rfl) (new4_cells _ _ _ _ _) (new4_one _ _ _ _) (by omega) (by unfold maxLen;omega) (by omega) (by have:=HI0.out.size;simp;omega) _ rfl ?_
  intro g cap w5 hown' hgrow _ _;refine hK2 _ _ ?_;clear hK2 K2;have hI5:=HI0.out.app (t:=(Tk.mk 6 ⟨#[]⟩ 0 s.size)) _ hown' hgrow;have HI5:=hide hI5;have hL5:=hI5.lists HL.out
  obtain⟨p0,p1,q0,q1⟩:=hI5.cells;have l0:=hL5.f0;have l1:=hL5.f1;clear hown' hgrow hI5 hL5;refine wt 7 (.slice (some ⟨g,0,none⟩) (acc.length+1) cap) ?_;exact zcbe
 ):G:=h
theorem zbbh {G:Prop}(h:G:=by
  refine wh 4 (rPtr c) HR0.out.drew ?_;refine wq1 5 fun K hK=>?_;go_simp;refine cm (fixed_any c _ i d HR0.out.drew) ?_;rintro e wq ⟨rfl,hbq⟩;have HRq:=hide (HR0.out.drew.later hbq)
  have HAq:=hide (HA0.out.next (Ap.of ((Below.refl _ _).drew.trans hbq)));clear hbq;refine hK.out _ _ HRq.out (fun _=>?_);clear hK K
  refine wg 6 (.tuple #[.func (.func f) #[.pointer (some ⟨c.R,0,none⟩)] #[],.bool true]) rfl (Or.inl ⟨by kernel_rfl,fun W hW=>by have hh:=HL.out W hW;go_simp⟩) HRq.out ?_
  refine wh 7 (.tuple #[.func (.func f) #[.pointer (some ⟨c.R,0,none⟩)] #[],.bool true]) HRq.out ?_;refine wh 8 (.func (.func f) #[.pointer (some ⟨c.R,0,none⟩)] #[]) HRq.out ?_;refine wh 9 (.bool true) HRq.out ?_
  refine wh 10 (.func (.func f) #[.pointer (some ⟨c.R,0,none⟩)] #[]) HRq.out ?_;refine wh 11 (.bool true) HRq.out ?_;refine wpAnyH_done (by kernel_rfl) ?_ _;go_simp;have HC:Hid _:=unhide HP wq HRq.out
  go_wp2_with fail;refine cm HC.out ?_;intro e w2 hp
  cases r with
  | out=>exact absurd rfl HO.out
  | bad er p=>
   obtain⟨rfl,ha⟩:=hp;exact⟨rfl,ppBad rfl (HAq.out.next ha)⟩
  | ok x j=>
   obtain⟨⟨v,rfl,hv⟩,hrd,ha⟩:=hp;have HV:=hide (NV.mono hv HAq.out.size);have HR2:=hide hrd;have HA2:=hide (HAq.out.next ha);clear hv hrd ha;go_wp2_with fail;go_ret;exact ppOk rfl HV.out HR2.out HA2.out
 ):G:=h
theorem zbbi {G:Prop}(h:G:=by
  have HNN:=hide hn;clear hn;have HE:=hide he;clear he;go_enter Tryz.func159,Tryz.ntmps159;go_wp2_with fail;refine(digit_any _).mono ?_;rintro e1 w1 ⟨x,rfl,hx,hbel⟩;obtain⟨hc,hf⟩:=bcell hbel
  have HBEL:=hide hbel;have HX:=hide hx;clear hx hbel;go_wp2_with fail;have hpast:=past_any s k x digB w1 (by unfold maxLen;omega) (by omega) HX.out
  rw[HE.out] at hpast;refine hpast.mono ?_;clear hpast;rintro e2 w2 ⟨rfl,rfl⟩;go_wp2_with fail;have hds:∀ i,(hi:i<(s.extract k e).size)→digB ((s.extract k e)[i].toNat:Int)=true:=fun i hi=>by
   exact zcbt
  have hsz:=extract_size s k e (by omega) hes;refine(atoi_any (s.extract k e) w2 (by omega) (by omega) hds).mono ?_;rw[HNN.out];rintro e3 w3 ⟨rfl,hbel3⟩;have hbelA:=HBEL.out.trans (hbel3.mono HBEL.out.size)
  clear hc hf HBEL;obtain⟨hc,hf⟩:=bcell hbelA;have HBEL:=hide hbelA;clear hbelA hbel3 hds hsz;go_wp2_with fail
  exact bodyPost_ret (v:=.tuple #[.agg #[.int .i64 3,.string ⟨#[]⟩,.int .i64 n,.int .i64 (k:Int)],.int .i64 (e:Int),.nilIface]) (by simp[results,Tryz.results159,go_sem,hc]) rfl ⟨rfl,good_end HBEL.out _ _ _ _⟩
 ):G:=h
theorem zbbj {G:Prop}(h:G:=by
  exact zcbc
 ):G:=h
theorem zbbk {G:Prop}(h:G:=by
  obtain⟨g,cap,hg,hcell⟩:=row_open hrow.1 (by rw[List.length_map];omega)
  simp only[Value.slice.injEq] at hg;refine⟨g,hg.1,(own_lt hrow.1 g (by rw[hg.1];rfl)).1,?_⟩
  have h:=hcell k (by rw[List.length_map];exact hk)
  simpa using h
 ):G:=h
theorem zbbl {G:Prop}(h:G:=by
  go_enter Tryz.func185,Tryz.ntmps185;go_wp2_with fail
  go_region
  go_wp2_with fail;refine cm (HC.out _) ?_;rintro e w1 ⟨rfl,rfl⟩;clear HC;go_wp2_with fail;go_ret;exact⟨rfl,((Below.refl _ _).alloc (Nat.le_refl _) _).drew⟩
 ):G:=h
theorem zbbm {G:Prop}(h:G:=by
  refine hK.out _ _ (fun _=>hS5) ?_;clear hK K;refine uq1 6 fun K hK=>?_;go_simp;refine hK.out _ _ (fun e=>by cases e) ?_;clear hK K;refine udone (by kernel_rfl) ?_ _
  have HR5:Hid (Z5.ownsRow w.heap.size 116 3 (.slice (some ⟨g5,0,none⟩) (n+1) c5) (n+1) (xs++[.int .i64 o,.slice na nl nc,.bool b])):=owns_low3 hrow5 (by have:=unhide HS0;omega)
  have HB5:Hid (Below w.heap.size w Z5):=HB0.out.trans (hS5.mono HB0.out.size);clear hrow5 hgr5 hg5;go_simp;go_wp2_with fail;go_ret;exact⟨⟨_,rfl,by first|exact unhide HR5 | (simpa using HR5.out)⟩,HB5.out⟩
 ):G:=h
theorem zbbn {G:Prop}(h:G:=by
  exact zdai
 ):G:=h
theorem zbbo {G:Prop}(h:G:=by
  have hmem:=List.getElem_mem hk;have h1:=cnts_mem3 hmem
  exact revals_any (I:=I) _ _ (Nat.le_refl _) (by omega) X (AAt.later (fun b _ hl=>hX.block b hl) _ (hy.parts _ hmem)) (ill_parts (ill_parts hi y hym) _ hmem)
 ):G:=h
theorem zbbp {G:Prop}(h:G:=by
  exact zcbs
 ):G:=h
theorem zbbq {G:Prop}(h:G:=by
  go_wp2_with fail;refine(fail_any _ _ _).mono ?_;rintro e4 w4 ⟨b,rfl,hb,hlb,hbel2⟩;have hbel:=HBEL.out.trans (hbel2.mono HBEL.out.size);have hlb2:=Nat.le_trans HBEL.out.size hlb;clear hc hf
  obtain⟨hc,hf⟩:=bcell hbel;have HB:=hide hb;have HBEL2:=hide hbel;clear hb hbel hbel2 hlb;go_wp2_with fail
  exact bodyPost_ret (v:=.tuple #[noTok,.int .i64 0,.iface 144 (.pointer (some ⟨b,0,none⟩))]) (by simp[results,Tryz.results159,go_sem,hc]) rfl ⟨b,rfl,bad_end HBEL2.out hlb2 HB.out _ _ _ _⟩
 ):G:=h
theorem zbbr {G:Prop}(h:G:=by
  intro u hu;simp only[List.mem_cons,List.not_mem_nil,or_false] at hu
  rcases hu with rfl|rfl|rfl|rfl <;> rfl
 ):G:=h
theorem zbbs {G:Prop}(h:G:=by
  have HC:=hide (must_any c tSemi (w3.setCell ⟨p0,3,none⟩ (.slice (some ⟨g,0,none⟩) (t0.kids.length+1) cap)) jx d HM2.out (by decide));rw[hr] at HC HS;simp only[bind_bad] at HS;clear hr;go_wp2_with fail
  refine cm HC.out ?_;intro e w' hp;obtain⟨rfl,ha⟩:=hp;exact⟨rfl,ppBad HS.out.symm (HM3.out.next ha)⟩
 ):G:=h
theorem zbbt {G:Prop}(h:G:=by
  have hki:(k:Int)<(es.length:Int):=by omega
  obtain⟨gk,hge,hgl,hck⟩:=unhide HKC k hlt;subst hge;have hckj:=keepC HBJ.out hck;have hglj:=cell_lt hckj;have HC:=hide (unhide HEV wj HBJ.out k hlt)
  have HTK:Hid (((es.take (k+1)).any fun x=>evW x.tr)=(cb||evW (es[k]).tr)):=by
   show _=_
   rw[List.take_succ_eq_append_getElem hlt,List.any_append,HCV.out];simp
  clear hck hgl
  generalize (es[k]).p=q at *
  generalize evW (es[k]).tr=b at *
  cases cb with
  | true=>
   exact zcbz
  | false=>
   go_wp2_with fail;refine cm HC.out ?_;rintro e w3 ⟨rfl,hw3⟩;obtain rfl:wj=w3:=hw3.symm;clear HC hw3;exact zcbz
 ):G:=h
theorem zbbu {G:Prop}(h:G:=by
  exact zcaz
 ):G:=h
theorem zbbv {G:Prop}(h:G:=by
  obtain⟨hc,hf⟩:=bcell hbelA;have HBELA:=hide hbelA;have HBB:=hide hb;clear hbelA hbel5 hb hlb;go_wp2_with fail
  exact bodyPost_ret (v:=.tuple #[noTok,.int .i64 0,.iface 144 (.pointer (some ⟨b,0,none⟩))]) (by simp[results,Tryz.results100,go_sem,hc]) rfl ⟨b,rfl,bad_end HBELA.out hlb2 HBB.out _ _ _ _⟩
 ):G:=h
theorem zbbw {G:Prop}(h:G:=by
  clear hp3 ha3 HC3;go_wp2_with fail;go_ret;exact⟨⟨_,rfl,_,rfl⟩,⟨j3,(HP3.out.alloc _).alloc _⟩,he,(HA3.out.alloc HA3.out.size _).alloc (by have:=HA3.out.size;simp;omega) _⟩
 ):G:=h
theorem zbbx {G:Prop}(h:G:=by
  show Below _ _ _
  rw[hwz];exact((HB2.out.trans (hS4.mono HB2.out.size)).setCell (p:=⟨w.heap.size,0,none⟩) (Nat.le_refl _) _).setCell (p:=⟨w.heap.size,1,none⟩) (Nat.le_refl _) _
 ):G:=h
theorem zbby {G:Prop}(h:G:=by
  refine⟨?_,names_len y.tr true (by omega),by omega⟩;have h1:=once_len (x.tr.kids.map Tr.tx);rw[List.length_map] at h1;have h2:=counts_len x.tr.kids;have h3:=count_kids x.tr;omega
 ):G:=h
theorem zbbz {G:Prop}(h:G:=by
  obtain⟨hc,hf⟩:=bcell hbelA;have HBELA:=hide hbelA;clear hbelA hb5;go_wp2_with fail
  exact bodyPost_ret (v:=.tuple #[.agg #[.int .i64 kd,.string tx,.int .i64 n,.int .i64 (k:Int)],.int .i64 (e:Int),.nilIface]) (by simp[results,Tryz.results100,go_sem,hc]) rfl ⟨rfl,good_end HBELA.out _ _ _ _⟩
 ):G:=h
theorem zbca {G:Prop}(h:G:=by
  obtain⟨o,h1,h2⟩:=find_ents s l 0 0;have h9:=Tryz.underlying9;have h3:(Instr.findKey 9 (.string s) (mapOf l).toList).run Tryz.prog W=.ok o W:=by
   unfold Instr.findKey;rw[Sem.run_bind,run_underlying h9 W];simp only[Result.andThen_ok,mapOf];rw[h1];rfl
  unfold Instr.lookup;rw[Sem.run_bind,run_underlying hT W];have hck:∀ b,(Instr.checkKey b 10000 9 (.string s)).run Tryz.prog W=.ok () W:=by
   intro b;rw[Instr.checkKey,Sem.run_bind,run_underlying h9 W];rfl
  have hg:(getObj m).run Tryz.prog W=.ok (.map (mapOf l) k) W:=by simp[getObj,Sem.run,hm]
  simp only[Result.andThen_ok,Sem.run_bind,hg,Sem.run_pure,hck,h3]
  cases o with
  | none=>
   cases hf:l.find? (fun e=>decide (s=e.1)) with
   | none=>simp[hz]
   | some x=>rw[hf] at h2;simp at h2
  | some y=>
   cases hf:l.find? (fun e=>decide (s=e.1)) with
   | none=>rw[hf] at h2;simp at h2
   | some x=>rw[hf] at h2;simp at h2;simp[h2]
 ):G:=h
theorem zbcb {G:Prop}(h:G:=by
  exact zcbd
 ):G:=h
theorem zbcc {G:Prop}(h:G:=by
  by_cases h1:s=tVar
  ·subst h1;decide +kernel
  by_cases h2:s=tLet
  ·subst h2;decide +kernel
  by_cases h3:s=tConst
  ·subst h3;decide +kernel
  simp[look2,dcs,h1,h2,h3]
 ):G:=h
theorem zbcd {G:Prop}(h:G:=by
  have nb:=(ha2.block _ (lt_of_heap HNB.out) (by have:=unhide HLT;omega)).trans HNB.out
  obtain⟨c0,c1,c2,c3,cf⟩:=node_cells nb;have cf3:=cf 3;have hnl:=lt_of_heap nb;have hA:=HA0.out.next ha2
  have HB:Hid (Below w.heap.size wv ((wv.setCell ⟨w.heap.size,3,none⟩ (.slice (some ⟨wv.heap.size,0,none⟩) 2 2)).alloc (.cells #[nPtr q,nPtr q2] 22))):=((Below.refl w.heap.size wv).setCell (p:=⟨w.heap.size,3,none⟩) (Nat.le_refl _) _).alloc (by simp;omega) _
  have HA:=hide (hA.trans (Ap.of HB.out));have HP:=hide (hp2.ap HB.out HLO.out);clear hp2 ha2 HC2 nb hA;have HC3:=hide (rskip_old c _ j2 er pl he tElse HP.out);go_wp2_with fail;refine cm HC3.out ?_
  rintro e wz ⟨rfl,hb⟩;have HA9:=hide (HA.out.next (Ap.of hb));have HP9:=hide (HP.out.later hb);clear hb HC3 c0 c1 c2 c3 cf cf3 hnl;go_wp2_with fail;go_ret;exact⟨⟨_,rfl,_,rfl⟩,⟨j2,HP9.out⟩,he,HA9.out⟩
 ):G:=h
theorem zbce {G:Prop}(h:G:=by
  have hbb:w3.heap[p0]? = wd.heap[p0]?:=(hgr3.block p0 (by simp;omega) (fun e=>HOd.out.own e.symm)).trans (Below.heap_alloc wd _ p0 ecl)
  exact⟨World.cell?_of_block (w:=wd) hbb,World.frozen?_of_block (w:=wd) hbb⟩
 ):G:=h
theorem zbcf {G:Prop}(h:G:=by
  refine wpAnyH_done (by kernel_rfl) ?_ _;go_simp;go_wp2_with fail
  exact bodyPost_ret (v:=.tuple #[.agg #[.string ⟨#[]⟩,.int .i64 0,.int .i64 0,.int .i64 0],.bool false]) (by simp[results,Tryz.results293,go_sem,q0,q1,q2,q3]) rfl ⟨rfl,below4 HW2.out (Nat.le_refl _) _ _ _ _⟩
 ):G:=h
theorem zbcg {G:Prop}(h:G:=by
  have HC:=hide (deepV hF wy.drew d (j1+1) HRy.out.drew (by rw[hr];nofun))
  rw[hr] at HC HS;simp only[bind_bad] at HS;clear hr;go_wp2_with fail;refine wp_region_any (by kernel_rfl) ?_;change wpAny _ _ _ _ _ _ _ (World.drew _);refine wt 0 (nPtr p0) ?_;refine wt 1 (nPtr p0) ?_
  refine wt 2 (nPtr p0) ?_;refine wt 3 (.pointer (some ⟨p0,3,none⟩)) ?_;refine wt 5 (rPtr c) ?_;refine wt 6 (rPtr c) ?_;refine wt 7 (.func (.func 243) #[rPtr c] #[]) ?_;refine wr2 4 8 (fun K hK=>?_) fun K hK=>?_
  ·go_simp;refine hK _ _ ?_;clear hK K;refine wr1 8 fun K hK=>?_;exact zccn
  ·exact zccn
 ):G:=h
theorem zbch {G:Prop}(h:G:=by
  have HC:=hide (deepV hF wm d (j1+1) HRm.out (by rw[hr];nofun))
  rw[hr] at HC HS;simp only[bind_ok] at HS;clear hr;go_wp2_with fail;refine cm HC.out ?_;intro e w2 hp;obtain⟨⟨v2,rfl,p2,rfl,hn2⟩,hrd,ha⟩:=hp;clear HC;have HA2:=hide (HAm.out.next ha)
  have HR2:=hide hrd;replace HN1:=hide (nats_pair HN1.out ha HLT.out HAm.out.size hn2);clear hn2;clear hrd ha HAm HRm
  have HC:=hide (node_any 24 noText (.slice (some ⟨w2.heap.size,0,none⟩) 2 2) (w2.alloc (.cells #[nPtr p1,nPtr p2] 22)) ⟨_,_,_,rfl⟩);go_wp2_with fail;refine cm HC.out ?_;rintro e wn ⟨rfl,rfl⟩;clear HC
  go_wp2_with fail;go_ret;obtain⟨m1,m2,m3⟩:=made HR2.out HA2.out HN1.out (by simp[maxLen]) #[nPtr p1,nPtr p2] rfl 2 rfl 24 noText (w2.heap.size+1) rfl;exact ppOk HS.out.symm m1.nv m2 m3
 ):G:=h
theorem zbci {G:Prop}(h:G:=by
  rw[hr2] at hp HQ2;have hq:r=.bad er pl:=unhide HQ2;subst hq;obtain⟨⟨v,rfl,rfl⟩,hp2,he,ha2⟩:=hp;have HP2:=hide hp2;have HA2:=hide (HA.out.next ha2);clear hp2 ha2 HC2 hr2;go_wp2_with fail;go_ret
  exact⟨⟨_,rfl,_,rfl⟩,HP2.out,he,HA2.out⟩
 ):G:=h
theorem zbcj {G:Prop}(h:G:=by
  have HFF:=hide (fits_ways s (tkA c.l j).tx);rw[if_neg (fun h=>h5 h.1)] at HQ;have b5:((tkA c.l j).kd != 5)=true:=bne_iff_ne.2 h5
  rcases unhide HFF with ⟨_,b1⟩|⟨_,b1,b2,b3⟩|⟨_,b1,b2,b3,b4⟩|⟨_,b1,b2⟩|⟨_,b1,b2,b3,b4⟩
  all_goals
   have hq:r=.ok t j:=HQ.out.symm;subst hq;clear HQ h5 HFF HPC HNX HO HK HSO
   generalize tkA c.l j=tk at *
   go_wp2_with fail;refine cm HC1.out ?_;rintro e w2 ⟨rfl,rfl⟩;clear HC1;go_wp2_with fail
   go_region
   go_wp2_with fail
   go_region
   go_wp2_with fail;go_ret
   exact⟨⟨_,rfl,q,rfl,nv_at (NV.later ⟨q,rfl,HN.out⟩ (((Ap.refl c.P w2.heap.size w2).alloc (Nat.le_refl _) _).drew.drew) HLT.out)⟩,(HPS.out.alloc _).drew.drew,(HAP.out.alloc HAP.out.size _).drew.drew⟩
 ):G:=h
theorem zbck {G:Prop}(h:G:=by
  have h:=rparams_any a.tr a.p X (hlat a X ha hX) (by rw[hak];simp) (by omega)
  have e:kid0 a.tr=x.tr:=by unfold kid0;rw[hak]
  rw[e] at h;exact h
 ):G:=h
theorem zbcl {G:Prop}(h:G:=by
  subst hq;obtain⟨⟨v,rfl,rfl⟩,hp2,ha2⟩:=hp;have HP2:=hide hp2;have HA2:=hide (HA.out.next ha2);have HN2:=hide (NV.later HN.out ha2 HLT.out);clear hp2 ha2 HC2 hr2;go_wp2_with fail;go_ret
  exact⟨⟨_,rfl,HN2.out⟩,HP2.out,HA2.out⟩
 ):G:=h
theorem zbcm {G:Prop}(h:G:=by
  rw[hr] at HC HS;simp only[bind_bad] at HS;clear hr;go_wp2_with fail;refine cm HC.out ?_;intro e w' hp;obtain⟨rfl,ha⟩:=hp;exact⟨rfl,ppBad HS.out.symm (HA2.out.next ha)⟩
 ):G:=h
theorem zbcn {G:Prop}(h:G:=by
  rw[hr] at HC HS;simp only[bind_bad] at HS;clear hr;go_wp2_with fail;refine cm HC.out ?_;intro e w' hp;obtain⟨rfl,ha⟩:=hp;exact⟨rfl,ppBad HS.out.symm (HA1.out.next ha)⟩
 ):G:=h
theorem zbco {G:Prop}(h:G:=by
  have h9:=heap_new (w.alloc (.cells #[.pointer oa,.bool false] 112)) (.cells #[.pointer none,.bool false] 112);rw[show (w.alloc (.cells #[.pointer oa,.bool false] 112)).heap.size=w.heap.size+1 by simp] at h9
  rw[hwA];exact h9
 ):G:=h
theorem zbcp {G:Prop}(h:G:=by
  show RR _ _ _ _
  rw[hps1];refine HRR.out.push (fun b hb hl=>HBJ.out.block b hl) (fun b hb=>Or.inl hb) ?_ ?_ ?_ ?_ (by simp)
  ·exact owns_stay (I:=fun b=>we.heap.size≤b) (fun b hb _=>hset b (by have h2:we.heap.size≤b:=hb;omega)) (fun b hb=>(own_lt HR5.out b hb).2) (owns_low3 HR5.out (Nat.zero_le _))
  ·intro b hb;have h1:=own_lt HR5.out b hb;exact Or.inr ⟨by omega,by omega⟩
  ·exact srow_mono (owns_stay (I:=fun b=>w1.heap.size≤b) (fun b hb _=>hset b (by have h2:w1.heap.size≤b:=hb;omega)) (fun b hb=>(own_lt HL5.out b hb).2) HL5.out) (Nat.zero_le _)
  ·intro b hb;have h1:=own_lt HL5.out b hb;exact Or.inr ⟨by omega,by omega⟩
 ):G:=h
theorem zbcq {G:Prop}(h:G:=by
  go_wp2_with fail;refine cm HC5.out ?_;intro e w4 hp
  cases r with
  | out=>exact absurd rfl HO.out
  | bad er pl=>
   obtain⟨⟨v,rfl,q,rfl⟩,hp2,he,ha⟩:=hp;have H2:=hide hp2;have H3:=hide (HA3.out.next ha);clear hp2 ha HC5;exact zcci
  | ok t j=>
   obtain⟨⟨v,rfl,q,rfl,hn⟩,hp2,ha⟩:=hp;have H1:Hid (NAt (fun b=>w.heap.size≤b) w4 t q):=NAt.mono (fun b hb _=>Nat.le_trans HA3.out.size hb) _ _ hn;have H2:=hide hp2;have H3:=hide (HA3.out.next ha)
   clear hn hp2 ha HC5;exact zccg
 ):G:=h
theorem zbcr {G:Prop}(h:G:=by
  clear h hk;go_enter Tryz.func312,Tryz.ntmps312;have HC:=hide (token_any c w i d HR0.out);unfold tkV at HC;have hfl:=fldKind (tkA c.l i);go_wp2_with fail;refine cm HC.out ?_;rintro e wt ⟨rfl,hbt⟩;clear HC
  have HRt:=hide (HR0.out.later hbt);have HBt:=hide hbt;clear hbt;go_wp2_with fail;go_ret;exact⟨rfl,HBt.out⟩
 ):G:=h
theorem zbcs {G:Prop}(h:G:=by
  have h1:=unhide HQ;rw[hb0,bind_ok] at h1;unfold catchP at h1;rw[if_pos hc0] at h1;rw[h1]
  cases mustP c.l tOpen (j+1) with
  | out=>rfl
  | bad er pl=>rfl
  | ok x1 k1=>
   simp only[bind_ok]
   cases nameP c.l k1 with
   | out=>rfl
   | bad er pl=>rfl
   | ok x2 k2=>
    simp only[bind_ok]
    cases mustP c.l tShut k2 with
    | out=>rfl
    | bad er pl=>rfl
    | ok x3 k3=>
     simp only[bind_ok]
     cases blockP c.l F d k3 with
     | out=>rfl
     | bad er pl=>rfl
     | ok x4 k4=>
      simp only[bind_ok]
      cases finallyP c.l F d k4 with
      | out=>rfl
      | bad er pl=>rfl
      | ok x5 k5=>
       simp only[bind_ok];rw[if_neg (by simp)];rfl
 ):G:=h
theorem zbct {G:Prop}(h:G:=by
  have HA:=hide (hA.trans (Ap.of HB.out));have HP:=hide (hp1.ap HB.out HLO.out);have HC2:=hide (rmust_old c _ j er pl he tSemi HP.out);clear hp1 ha HC nb hA;go_wp2_with fail;refine cm HC2.out ?_
  rintro e wz ⟨rfl,rfl⟩;clear HC2;go_wp2_with fail;go_ret;exact⟨⟨_,rfl,_,rfl⟩,⟨j,HP.out⟩,he,HA.out⟩
 ):G:=h
theorem zbcu {G:Prop}(h:G:=by
  first|omega | (simp[ar,need] <;> omega) | (simp[ar,need] at * <;> omega)
 ):G:=h
theorem zbcv {G:Prop}(h:G:=by
  refine hK _ _ ?_;clear hK K;refine wr2 4 7 (fun K hK=>?_) fun K hK=>?_
  ·go_simp;refine hK _ _ ?_;clear hK K;refine wr1 7 fun K hK=>?_;exact zcbv
  ·go_simp;refine hK _ _ ?_;clear hK K;refine wr1 4 fun K hK=>?_;exact zcbv
 ):G:=h
theorem zbcw {G:Prop}(h:G:=by
  have HC':=hide (HC.out _ hr.symm (by nofun));rw[hr] at HS;have hq:r=.bad er pl:=unhide HS;subst hq;clear HC HPC hr;go_enter Tryz.func254,Tryz.ntmps254;go_wp2_with fail;refine cm HC'.out ?_
  rintro e w1 ⟨⟨v,rfl,q,rfl⟩,⟨j,hp1⟩,he,ha1⟩;have HC1:=hide (rok_old he hp1);have HP1:=hide hp1;have HA1:=hide ha1;clear hp1 ha1 HC';go_wp2_with fail;refine wp_loop_rounds 1 ?_;rw[rounds_succ]
  go_wp2_with fail;refine cm HC1.out ?_;rintro e w2 ⟨rfl,rfl⟩;clear HC1;exact zccc
 ):G:=h
theorem zbcx {G:Prop}(h:G:=by
  rintro e w6 ⟨⟨rfl,hk6⟩,hb6⟩;have hS6:Below w5.heap.size w5 w6:=hS5.trans (hb6.mono hS5.size);have hge:=hS5.size;refine hK.out _ _ (fun _=>hS6) ?_;clear hK K;refine uq1 10 fun K hK=>?_;go_simp
  refine cm (unhide HTA w5 w6 _ HQ5.out hS6 (by omega) hk6) ?_;rintro e w9 ⟨rfl,hq9⟩;refine hK.out _ _ (fun e=>by cases e) ?_;clear hK K;refine udone (by kernel_rfl) ?_ _;have HQ9:=hide hq9
  clear hq9 hS5 hS6 hk6 hb6 hge;go_simp;go_wp2_with fail;exact bodyPost_ret (v:=.tuple #[]) (by simp[results,Tryz.results68,go_sem]) rfl ⟨rfl,HQ9.out⟩
 ):G:=h
theorem zbcy {G:Prop}(h:G:=by
  have HC:=hide (must_any c tSemi (w3.setCell ⟨p0,3,none⟩ (.slice (some ⟨g,0,none⟩) (t0.kids.length+1) cap)) jx d HM2.out (by decide));rw[hr] at HC HS;simp only[bind_ok] at HS;clear hr;go_wp2_with fail
  refine cm HC.out ?_;intro e w2 hp;obtain⟨⟨v2,rfl,rfl⟩,hrd,ha⟩:=hp;clear HC;have HA2:=hide (HM3.out.next ha);have HR2:=hide hrd;replace HM1:=hide (EV.later HM1.out ha HLT.out);clear hrd ha HM3 HM2
  have ht0:=unhide HT0;subst ht0;go_wp2_with fail;go_ret;exact ppOk HS.out.symm HM1.out.nv HR2.out HA2.out
 ):G:=h
theorem zbcz {G:Prop}(h:G:=by
  have HC:=hide (must_any c tSemi (w3.setCell ⟨p0,3,none⟩ (.slice (some ⟨g,0,none⟩) (t0.kids.length+1) cap)) jx d HM2.out (by decide));rw[hr] at HC HS;simp only[bind_ok] at HS;clear hr;go_wp2_with fail
  refine cm HC.out ?_;intro e w1 hp;obtain⟨⟨v1,rfl,rfl⟩,hrd,ha⟩:=hp;clear HC;have HA1:=hide (HM3.out.next ha);have HR1:=hide hrd;replace HM1:=hide (EV.later HM1.out ha HLT.out);clear hrd ha HM3 HM2
  have ht0:=unhide HT0;subst ht0;go_wp2_with fail;go_ret;exact ppOk HS.out.symm HM1.out.nv HR1.out HA1.out
 ):G:=h
theorem zbda {G:Prop}(h:G:=by
  go_wp2_with fail;go_ret;exact⟨⟨_,rfl,_,rfl⟩,HP2.out,he,HA2.out⟩
 ):G:=h
theorem zbdb {G:Prop}(h:G:=by
  go_wp2_with fail;refine cm HC.out ?_;intro e w1 hp
  cases r with
  | out=>exact absurd rfl HO.out
  | bad er pl=>
   obtain⟨⟨v,rfl,q,rfl⟩,hp1,he,ha⟩:=hp;have HP:=hide hp1;have HA:=hide ha;exact zcca
  | ok t j=>
   obtain⟨⟨v,rfl,q,rfl,hn⟩,hp1,ha⟩:=hp;have HP:=hide hp1;have HA:=hide ha;have HN:=hide hn;exact zcbu
 ):G:=h
theorem zbdc {G:Prop}(h:G:=by
  go_wp2_with fail;exact bodyPost_ret (v:=.tuple #[.slice none 0 0,.agg #[.int .i64 3,.int .i64 (j:Int)]]) (by simp[results,go_sem,rc0,rc1]) rfl ⟨rfl,HI.out.out _ _⟩
 ):G:=h
theorem zbdd {G:Prop}(h:G:=by
  refine hK _ _ ?_;clear hK K;refine wr1 9 fun K hK=>?_;go_simp;refine hK _ _ ?_;clear hK K;refine wt 10 (.agg #[.int .i64 13,.string s,.int .i64 0,.slice (some ⟨wc.heap.size,0,none⟩) 1 1]) ?_
  refine wr1 11 fun K hK=>?_;go_simp;refine hK _ _ ?_;clear hK K;refine wr1 12 fun K hK=>?_;go_simp;refine hK _ _ ?_;clear hK K;refine wpAny_same (listed':=tf 13 4) (by kernel_rfl) rfl ?_
  exact CONT wc pc HHY.out
 ):G:=h
end Go.Proofs.YtoimgcjbcbhclaaGreatDoor
