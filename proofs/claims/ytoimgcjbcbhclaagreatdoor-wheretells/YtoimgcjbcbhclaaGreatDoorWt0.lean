/-
  Parts of proofs that stand more than once.
-/
import Derived.WalkKit
import Derived.Deep.LoopGhost
import Derived.Deep.RegionWith
set_option maxRecDepth 100000
set_option maxHeartbeats 16000000
namespace Go.Proofs.YtoimgcjbcbhclaaGreatDoor
open Go.RowKit
theorem zeaa {G:Prop}(h:G:=by
  have HLO:=hide h.base.size;obtain⟨i0',hi0,hz0,hz1,hz2⟩:=info_parts info22;have HR0:=hide h;have HA0:=hide (Ap.refl c.R w.heap.size w);have HLT:=hide h.rlt;clear h;exact zrc
 ):G:=h
theorem zeab {G:Prop}(h:G:=by
  go_loop [5] (fun v=>∃ q:Nat,j≤q∧q≤e∧v=.int .i64 q∧pastN lodB s q=e) (fun v=>s.size - (intOf v).toNat)
  case atStart=>exact⟨j,Nat.le_refl _,by omega,rfl,HEE.out⟩
  case round=>
   obtain⟨q,hq1,hq2,rfl,hqe⟩:=hrel
   by_cases hqs:q<s.size
   ·
    cases hl:letB (s[q].toNat:Int)
    ·
     cases hd:digB (s[q].toNat:Int)
     ·exact zrcr
     ·exact zcab
    ·exact zcad
   ·exfalso;omega
 ):G:=h
theorem zeac {G:Prop}(h:G:=by
  go_loop [5,12] (fun i v=>∃ (q:Nat) (said:List UInt8),j+1≤q∧q≤s.size∧said.length≤q∧i=.int .i64 q∧v=.string (ofBytes said)∧strR s q said=.ok l e) (fun i _=>s.size - (intOf i).toNat)
  case atStart=>exact⟨j+1,[],Nat.le_refl _,by omega,by simp,by go_num,rfl,HR.out⟩
  case round=>
   obtain⟨q,said,hq1,hq2,hq3,rfl,rfl,hqe⟩:=hrel
   by_cases hqs:q<s.size
   ·have hbt:=bt_eq s q hqs;have b1:=byte_eq s[q] 39;have b2:=byte_eq s[q] 10;have b3:=byte_eq s[q] 92;have ql:((q:Int)==(s.size:Int))=false:=beq_eq_false_iff_ne.2 (by omega)
    by_cases c1:s[q]=39
    ·exact zrdx
    ·exact zbai
   ·have hqq:s.size=q:=by omega
    subst hqq;rw[strR_end s s.size said hqs] at hqe;cases hqe
 ):G:=h
theorem zead {G:Prop}(h:G:=by
  have n4:¬ fx c.l i=tWhile:=by rw[hf];decide
  have n5:¬ fx c.l i=tWith:=by rw[hf];decide
  have HQ:=hide hs;clear hs;exact zrb
 ):G:=h
theorem zeae {G:Prop}(h:G:=by
  rw[←hwd];clear hwd;refine ug 0 (plV2 (.pointer oa) true) rfl (Or.inl ⟨by kernel_rfl,fun X hX=>by have h0:=keepC hX HX0.out;have h1:=keepC hX HX1.out;go_simp⟩) hS0 ?_
  exact zrbm
 ):G:=h
theorem zeaf {G:Prop}(h:G:=by
  cases st with
  | true=>
   rw[Bool.true_or] at HTA;exact zrt
  | false=>
   rw[Bool.false_or] at HTA;exact zrl
 ):G:=h
theorem zeag {G:Prop}(h:G:=by
  have HEND0:=hide (fn_end hT a x y hks hm I nb mb ob fb A pre post L ps false w hA hW ha hi hws hpl hL ka kc (owns_zero hrow.1) hrow.2);exact zrw
 ):G:=h
theorem zeah {G:Prop}(h:G:=by
  have HEND0:=hide (fn_end hT a x y hks hm I nb mb ob fb A pre post L ps true w hA hW ha hi hws hpl hL ka kc (owns_zero hrow.1) hrow.2);exact zrw
 ):G:=h
theorem zeai {G:Prop}(h:G:=by
  cases hr:paramsP c.l F j2 with
  | out=>
   exact zbal
  | bad er p=>
   have HC:=hide (params_at (F:=F) w2 d j2 (by rw[hr];nofun) HR2.out)
   exact zbcm
  | ok x3 j3=>
   have HC:=hide (params_at (F:=F) w2 d j2 (by rw[hr];nofun) HR2.out)
   exact zrcw
 ):G:=h
theorem zeaj {G:Prop}(h:G:=by
  clear HS2 HP1 HA1 HN1
  rcases hrel with ⟨t,j,hq,hnv,hps,hap⟩|⟨er,pl,hq,he,⟨j,hps⟩,hap,q,rfl⟩
  ·exact zrcm
  ·have HC1:=hide (rok_old he hps);have HP1:=hide hps;have HA1:=hide hap;clear hps hap;subst hq;exact zbdf
 ):G:=h
theorem zeak {G:Prop}(h:G:=by
  cases hr:mustP c.l tFunction i with
  | out=>
   exact zbal
  | bad er p=>
   have HC:=hide (must_any c tFunction w i d HR0.out (by decide));exact zbax
  | ok x1 j1=>
   have HC:=hide (must_any c tFunction w i d HR0.out (by decide));exact zrcf
 ):G:=h
theorem zeal {G:Prop}(h:G:=by
  have HNP:=hide (NAt.mono (J:=fun b=>w.heap.size≤b∧b<w3.heap.size) (fun _ hb hl=>⟨hb,hl⟩) _ _ HN3.out)
  cases hr:blockP c.l F d j3 with
  | out=>
   exact zbal
  | bad er p=>
   exact zbep
  | ok tb jb=>
   exact zrci
 ):G:=h
theorem zeam {G:Prop}(h:G:=by
  cases hd:digB (s[q].toNat:Int)
  ·have hst:=pastN_stop digB s q hqs hd;exfalso;omega
  ·exact zcaa
 ):G:=h
theorem zean {G:Prop}(h:G:=by
  have HR:=hide hR;have HLET:=hide hlet;have HDIG:=hide hdig;clear hlet hdig HE hrd hR;exact zrca
 ):G:=h
theorem zeao {G:Prop}(h:G:=by
  cases hr:nameP c.l i with
  | out=>
   exact zbal
  | bad er p=>
   have HC:=hide (name_any c w i d HR0.out);exact zbax
  | ok x1 j1=>
   have HC:=hide (name_any c w i d HR0.out);exact zrcf
 ):G:=h
theorem zeap {G:Prop}(h:G:=by
  refine wpAnyH_ready (rs:=[5,10]) (by kernel_rfl) (by simp) (AllReadyH.cons rfl (fun K hK=>?_) (AllReadyH.cons rfl (fun K hK=>?_) AllReadyH.nil))
  ·exact zrch
  ·exact zrby
 ):G:=h
theorem zeaq {G:Prop}(h:G:=by
  have hl:i+1<c.l.length:=next_lt h.base.ends h.lt (by rw[hk];decide)
  exact zrr
 ):G:=h
theorem zear {G:Prop}(h:G:=by
  rw[decide_eq_false hnp] at hx;have HX:=hide hx;have HNB:=hide hnb;have HNF:=hide hnf;clear hx h hn1 hn3 hn4 hnp hnf hnb;exact zrbk
 ):G:=h
theorem zra {G:Prop}(h:G:=by
  obtain⟨i0,hi0,hz0,hz1,hz2⟩:=info_parts info9;have hym:y ∈ a.ks:=by rw[hks];simp
  obtain⟨_,hap,c0,c1,_⟩:=ha.cells;obtain⟨g2,cap2,c3,hgl2,_,e1,hig⟩:=ha.two hks;have c3':w.cell? ⟨a.p,3,none⟩=some (.slice (some ⟨g2,0,none⟩) 2 cap2):=c3;clear c3;have hy:=ha.parts y hym
  obtain⟨_,hyp,_,_,kv,y3,hrow⟩:=hy.cells;obtain⟨ka,kc,hkv⟩:=row_shut hrow.1;rw[List.length_map] at hkv;subst hkv;rw[hkd] at c0;obtain⟨g,cap,hvf,_,_⟩:=hR.1.form hp0;subst hvf
  have hb1:Below w.heap.size w (w.alloc (.cells #[.slice (some ⟨g,0,none⟩) ps.length cap] 114)):=(Below.refl _ _).alloc (Nat.le_refl _) _;have hnl:=lt_of_heap hW.num
  have cn:w.cell? ⟨nb,0,none⟩=some (.map (some mb)):=by rw[cell_of hW.num];rfl
  have HNUM:Hid (∀ X,Below w.heap.size w X→(Instr.lookup 44 (.map (some mb)) (nPtr a.p) false).run Tryz.prog X=.ok (.int .i64 (pre.length:Int)) X):=fun X hX=>hW.look hA (Fm.of hX);have hcnt:=cnt_eq a
  rw[hks,Ad.cnts,Ad.cnts,Ad.cnts] at hcnt;have hcy:=cnt_eq y;have hty:=y.cnt_tr;have hta:=a.cnt_tr;have htx2:=x.cnt_tr;have hfun:isFunT a.tr=true:=by unfold isFunT;rw[a.tr_eq.1,hkd];rfl
  have hlat:∀ (z:Ad) (X:World),AAt I w z→Below w.heap.size w X→NTr X z.tr z.p:=fun z X hz hX=>NAt.nt (NAt.later (fun b _ hl=>hX.block b hl) _ _ hz.nat)
  have HIF:Hid (∀ X,Below w.heap.size w X→Calls Tryz.prog 55 #[nPtr a.p] X fun e w'=>e=.returned (.bool true)∧w'=X):=fun X hX=>by
   exact zbdy
  have HST:Hid (∀ X,Below w.heap.size w X→Calls Tryz.prog 64 #[nPtr y.p] X fun e w'=>e=.returned (.bool (decide (y.tr.tx=tStrict)))∧w'=X):=fun X hX=>rstrict_any y.tr y.p X (hlat y X hy hX)
  have HEV:Hid (∀ X,Below w.heap.size w X→∀ k (hk:k<y.ks.length),Calls Tryz.prog 29 #[nPtr (y.ks[k]).p] X fun e w'=>e=.returned (.bool (evW (y.ks[k]).tr))∧w'=X):=fun X hX k hk=>by
   exact zbbo
  have hak:a.tr.kids=[x.tr,y.tr]:=by rw[a.tr_eq.2.2,hks];rfl
  have HPR:Hid (∀ X,Below w.heap.size w X→Calls Tryz.prog 56 #[nPtr a.p] X fun e w'=>(∃ u,e=.returned u∧SRow X.heap.size w' u (onceL (x.tr.kids.map Tr.tx)))∧Below X.heap.size X w'):=fun X hX=>by
   exact zbck
  have HNM:Hid (∀ X,Below w.heap.size w X→Calls Tryz.prog 54 #[nPtr y.p,.bool true] X fun e w'=>(∃ u,e=.returned u∧SRow X.heap.size w' u (namesT y.tr true))∧Below X.heap.size X w'):=fun X hX=>rnames_any y.tr y.p true X (hlat y X hy hX) (by omega)
  have HKC:Hid (∀ k (hk:k<y.ks.length),∃ g,ka=some ⟨g,0,none⟩∧g<w.heap.size∧w.cell? ⟨g,k,none⟩=some (nPtr (y.ks[k]).p)):=fun k hk=>by
   exact zbbk
  have HCB:Hid ((y.ks.any fun k=>evW k.tr)=evWs y.tr.kids):=by
   show _=_
   rw[evWs_any,y.tr_eq.2.2,List.any_map];rfl
  have HNN:Hid ((onceL (x.tr.kids.map Tr.tx)).length≤19999∧(namesT y.tr true).length≤70000∧ps.length≤20000):=by
   exact zbby
  exact zraX
 ):G:=h
theorem zrb {G:Prop}(h:G:=by
  have HS0:=hide (Stn.new h);have hc:=rnext_any c (w.alloc nd0) i tLBrace (by decide) HS0.out.ps;rw[decide_eq_false n0] at hc;have HC:=hide hc;clear hc;clear h;go_enter Tryz.func111,Tryz.ntmps111
  go_wp2_with fail;refine cm HC.out ?_;rintro e w1 ⟨rfl,hb⟩;have HS1:=hide (HS0.out.below hb);clear hb HC HS0;have HC:=hide (rskip_no c w1 i tSemi (by decide) n1 HS1.out.ps);go_wp2_with fail;refine cm HC.out ?_
  rintro e w2 ⟨rfl,hb⟩;have HS2:=hide (HS1.out.below hb);clear hb HC HS1;have HC:=hide (rskip_no c w2 i tFunction (by decide) n2 HS2.out.ps);go_wp2_with fail;refine cm HC.out ?_;rintro e w3 ⟨rfl,hb⟩
  have HS3:=hide (HS2.out.below hb);clear hb HC HS2;have HC:=hide (rskip_no c w3 i tIf (by decide) n3 HS3.out.ps);go_wp2_with fail;refine cm HC.out ?_;rintro e w4 ⟨rfl,hb⟩;have HS4:=hide (HS3.out.below hb)
  clear hb HC HS3;have hc:=rnext_any c w4 i tWhile (by decide) HS4.out.ps;rw[decide_eq_false n4] at hc;have HC:=hide hc;clear hc;go_wp2_with fail;refine cm HC.out ?_;rintro e w5 ⟨rfl,hb⟩
  have HS5:=hide (HS4.out.below hb);clear hb HC HS4;have hc:=rnext_any c w5 i tWith (by decide) HS5.out.ps;exact zrbX
 ):G:=h
theorem zrc {G:Prop}(h:G:=by
  go_enter Tryz.func170,Tryz.ntmps170;have HC:=hide (must_any c tTry w i d HR0.out (by decide));rw[hm] at HC;go_wp2_with fail;refine cm HC.out ?_;intro e wa hp;obtain⟨⟨va,rfl,rfl⟩,hrd,ha⟩:=hp;clear HC
  have HRa:=hide hrd;have HAa:=hide (HA0.out.next ha);clear hrd ha;have HC:=hide (block_any hF hN wa d i0 _ rfl (by rw[hb];nofun) HRa.out)
  rw[hb] at HC;go_wp2_with fail;refine cm HC.out ?_;intro e wb hp;obtain⟨⟨vb,rfl,hnb⟩,hrd,ha⟩:=hp;clear HC;have HRb:=hide hrd;have HAb:=hide (HAa.out.next ha)
  obtain⟨pb,rfl,hmb⟩:=(EV.mono hnb HAa.out.size).nv;have HNb:=hide hmb;clear hnb hmb;clear hrd ha
  have HC:=hide (node_any 12 noText (.slice (some ⟨wb.heap.size,0,none⟩) 1 1) (wb.alloc (.cells #[nPtr pb] 22)) ⟨_,_,_,rfl⟩);go_wp2_with fail;refine cm HC.out ?_;rintro e wn0 ⟨rfl,rfl⟩;clear HC
  obtain⟨m1,m2,m3⟩:=made HRb.out HAb.out (NAts.cons HNb.out NAts.nil) (by simp[maxLen]) #[nPtr pb] rfl 1 rfl 12 noText (wb.heap.size+1) rfl;obtain⟨t0,ht0⟩:∃ t0:Tr,t0=.mk 12 noText 0 [b]:=⟨_,rfl⟩
  rw[←ht0] at m1;have HKL:Hid (t0.kids.length=1):=by
   show _=_
   rw[ht0];rfl
  have HT0:=hide ht0;obtain⟨p0,u0,ps0,hpe,hop⟩:=m1.opens;have hpe2:p0=wb.heap.size+1:=by simpa[nPtr] using hpe.symm
  rw[hpe2] at hop;have HOP:=hide hop;have HRn:=hide m2;have HAn:=hide m3;clear m1 m2 m3 hop hpe ht0
  obtain⟨wn,hwn⟩:∃ wn,wn=(wb.alloc (.cells #[nPtr pb] 22)).alloc (nodeObj 12 noText 0 (.slice (some ⟨wb.heap.size,0,none⟩) 1 1)):=⟨_,rfl⟩;rw[←hwn] at HOP HRn HAn;rw[←hpe2] at HOP
  rw[show (wb.alloc (.cells #[nPtr pb] 22)).heap.size=p0 by rw[hpe2];simp,←hwn]
  exact zrcX
 ):G:=h
theorem zrd {G:Prop}(h:G:=by
  have sf:=frozen_of hp1;have hpn:p≠w.heap.size:=by omega
  have hqn:q0≠w.heap.size:=by omega
  have hpl1:p<w1.heap.size:=by omega
  have hql1:q0<w1.heap.size:=by omega
  have hwl1:w.heap.size<w1.heap.size:=by omega
  have HB1:=hide hb1;have HS1:=hide hs1;have HP1:=hide hp1;have HR1:=hide hr1;have HC1:=hide c1;have HT0:=hide t0;have HC0:=hide c0;have HE3:=hide e3
  clear hnum hst htx hnm hev hbA hsA hpA hrA hb1 hs1 hp1 hr1 c0 c3 d0 d1 e3 hwA hw1 c1 t0;go_enter Tryz.func128,Tryz.ntmps128;go_wp2_with fail;rw[←HWA.out]
  refine wp_region_held (S:=fun X=>X=wA.drew) (by kernel_rfl) ?_;change wpAnyH _ _ _ _ _ _ _ _ (World.drew _);refine wh 0 (nPtr p) rfl ?_;refine wh 1 (nPtr p) rfl ?_
  refine wh 2 (.pointer (some ⟨p,3,none⟩)) rfl ?_;refine wh 3 (.slice (some ⟨g,0,none⟩) n cap) rfl ?_ (hy:=Or.inl ⟨by kernel_rfl,fun X hX=>by cases hX;go_simp⟩)
  refine wh 4 (.pointer (some ⟨g,0,none⟩)) rfl ?_;refine wh 5 (nPtr q0) rfl ?_ (hy:=Or.inl ⟨by kernel_rfl,fun X hX=>by cases hX;go_simp⟩)
  refine wh 6 (nPtr p) rfl ?_;refine wh 7 (nPtr p) rfl ?_;refine wh 8 (.pointer (some ⟨p,3,none⟩)) rfl ?_
  refine wh 9 (.slice (some ⟨g,0,none⟩) n cap) rfl ?_ (hy:=Or.inl ⟨by kernel_rfl,fun X hX=>by cases hX;go_simp⟩)
  refine wh 10 (.pointer (some ⟨g,1,none⟩)) rfl ?_;refine wh 11 (nPtr q1) rfl ?_ (hy:=Or.inl ⟨by kernel_rfl,fun X hX=>by cases hX;go_simp⟩)
  refine wh 12 (nPtr q0) rfl ?_;refine wh 13 (nPtr q1) rfl ?_;refine wpAnyH_done (by kernel_rfl) ?_ _;go_simp;rw[←HW1.out];clear a3 b0 b1;exact zrdX
 ):G:=h
theorem zre {G:Prop}(h:G:=by
  have HS0:=hide (Stn.new h);have hc:=rnext_any c (w.alloc nd0) i tLBrace (by decide) HS0.out.ps;rw[decide_eq_false n0] at hc;have HC:=hide hc;clear hc;clear h;go_enter Tryz.func111,Tryz.ntmps111
  go_wp2_with fail;refine cm HC.out ?_;rintro e w1 ⟨rfl,hb⟩;have HS1:=hide (HS0.out.below hb);clear hb HC HS0;have HC:=hide (rskip_no c w1 i tSemi (by decide) n1 HS1.out.ps);go_wp2_with fail;refine cm HC.out ?_
  rintro e w2 ⟨rfl,hb⟩;have HS2:=hide (HS1.out.below hb);clear hb HC HS1;have HC:=hide (rskip_no c w2 i tFunction (by decide) n2 HS2.out.ps);go_wp2_with fail;refine cm HC.out ?_;rintro e w3 ⟨rfl,hb⟩
  have HS3:=hide (HS2.out.below hb);clear hb HC HS2;exact zreX
 ):G:=h
theorem zrf {G:Prop}(h:G:=by
  rintro e wq ⟨rfl,hbq⟩;have HRq:=hide (HR0.out.drew.later hbq);have HAq:=hide (HA0.out.next (Ap.of ((Below.refl _ _).drew.trans hbq)));clear hbq;refine hK.out _ _ HRq.out (fun _=>?_);clear hK K
  refine wg 6 (.tuple #[.nilFunc,.bool false]) rfl (Or.inl ⟨by kernel_rfl,fun W hW=>by have hh:=HL.out W hW;go_simp⟩) HRq.out ?_
  refine wh 7 (.tuple #[.nilFunc,.bool false]) HRq.out ?_;refine wh 8 .nilFunc HRq.out ?_;refine wh 9 (.bool false) HRq.out ?_;refine wh 10 .nilFunc HRq.out ?_;refine wh 11 (.bool false) HRq.out ?_
  refine wpAnyH_done (by kernel_rfl) ?_ _;go_simp;have HC:=hide (sign_any c 0 wq i d HRq.out);rw[HSG.out] at HC;simp only[sgVO,noSg,Option.isSome] at HC;go_wp2_with fail;refine cm HC.out ?_
  rintro e ws ⟨rfl,hbws⟩;clear HC;have HAws:=hide (HAq.out.next (Ap.of hbws));have HRws:=hide (HRq.out.later hbws);clear hbws HRq HAq
  have HAs2:=hide (HAws.out.alloc HAws.out.size (.cells #[.string ⟨#[]⟩,.int .i64 0,.int .i64 0,.int .i64 0] 189))
  have HRs2:=hide (HRws.out.alloc (.cells #[.string ⟨#[]⟩,.int .i64 0,.int .i64 0,.int .i64 0] 189))
  have hs0:(ws.alloc (.cells #[.string ⟨#[]⟩,.int .i64 0,.int .i64 0,.int .i64 0] 189)).heap[ws.heap.size]? = some (.cells #[.string ⟨#[]⟩,.int .i64 0,.int .i64 0,.int .i64 0] 189):=heap_new _ _
  have HS0:=hide hs0;clear hs0;have HC:=hide (token_any c (ws.alloc (.cells #[.string ⟨#[]⟩,.int .i64 0,.int .i64 0,.int .i64 0] 189)) i d HRs2.out);unfold tkV at HC;go_wp2_with fail;refine cm HC.out ?_
  rintro e wt ⟨rfl,hbwt⟩;clear HC;have HAwt:=hide (HAs2.out.next (Ap.of hbwt));have HRwt:=hide (HRs2.out.later hbwt);have hp0:=(hbwt.block ws.heap.size (by simp)).trans HS0.out
  obtain⟨k0,k1,k2,k3,kf,klt⟩:=c160 hp0;have hc1:=HRwt.out.c1;have hcz:=HRwt.out.fz;have hcl:=HRwt.out.rlt;clear hbwt hp0
  have HAt2:=hide (HAwt.out.alloc HAwt.out.size (.cells #[.int .i64 (tkA c.l i).kd,.string (tkA c.l i).tx,.int .i64 (tkA c.l i).n,.int .i64 ((tkA c.l i).pl:Int)] 138))
  have HRt2:=hide (HRwt.out.alloc (.cells #[.int .i64 (tkA c.l i).kd,.string (tkA c.l i).tx,.int .i64 (tkA c.l i).n,.int .i64 ((tkA c.l i).pl:Int)] 138));exact zrfX
 ):G:=h
theorem zrg {G:Prop}(h:G:=by
  obtain⟨i0,hi0,hz0,hz1,hz2⟩:=info_parts info9;obtain⟨M,hM⟩:∃ M,M=P++[tArguments]:=⟨_,rfl⟩;rw[←hM];obtain⟨F,hF⟩:∃ F,F=M++N:=⟨_,rfl⟩;rw[←hF]
  have hMl:M.length=P.length+1:=by rw[hM];simp
  have HM:=hide hM;have HF:=hide hF;have HML:=hide hMl;clear hM hF hMl;obtain⟨c0,c1,⟨g,n,cap,hn2,c3,d0,d1⟩,t0,hnum,hst,⟨ua,uc,e3,htx⟩,hnm,hev,hlp,hln⟩:=h;have hpl:=cell_lt c0
  have hgl:=cell_lt d0;have htl:=cell_lt t0;have hql:=cell_lt e3;have hn0:¬ n=0:=by omega
  have hn1:¬ (n:Int)≤1:=by omega
  clear hn2;have HNUM:=hide hnum;have HST:=hide hst;have HTX:=hide htx;have HNM:=hide hnm;have HEV:=hide hev
  obtain⟨wA,hwA⟩:∃ wA,wA=(w.alloc (.cells #[.pointer oa,.bool false] 112)).alloc (.cells #[.pointer none,.bool false] 112):=⟨_,rfl⟩
  have hbA:Below w.heap.size w wA:=by rw[hwA];exact((Below.refl _ _).alloc (Nat.le_refl _) _).alloc (by simp) _
  have hsA:wA.heap.size=w.heap.size+2:=by rw[hwA];simp
  have hpA:wA.heap[w.heap.size]? = some (.cells #[.pointer oa,.bool false] 112 (0,0)):=by
   exact zbef
  have hrA:wA.heap[w.heap.size+1]? = some (.cells #[.pointer none,.bool false] 112 (0,0)):=by
   exact zbco
  obtain⟨w1,hw1⟩:∃ w1,w1=wA.drew:=⟨_,rfl⟩;have hb1:Below w.heap.size w w1:=by rw[hw1];exact hbA.drew
  have hs1:w1.heap.size=w.heap.size+2:=by rw[hw1];exact hsA
  have hp1:w1.heap[w.heap.size]? = some (.cells #[.pointer oa,.bool false] 112 (0,0)):=by rw[hw1];exact hpA
  have hr1:w1.heap[w.heap.size+1]? = some (.cells #[.pointer none,.bool false] 112 (0,0)):=by rw[hw1];exact hrA
  have a3:=keepC hbA.drew c3;have b0:=keepC hbA.drew d0;have b1:=keepC hbA.drew d1;have HW1:=hide hw1;have HWA:=hide hwA;have k0:=keepC hb1 c0;have k1:=keepC hb1 c1;have k3:=keepC hb1 e3
  have s0:w1.cell? ⟨w.heap.size,0,none⟩=some (.pointer oa):=by rw[cell_of hp1];rfl
  have s1:w1.cell? ⟨w.heap.size,1,none⟩=some (.bool false):=by rw[cell_of hp1];rfl
  exact zrgX
 ):G:=h
theorem zrh {G:Prop}(h:G:=by
  go_enter Tryz.func70,Tryz.ntmps70;go_wp2_with fail;obtain⟨w1,hw1⟩:∃ w1,w1=w.alloc (.cells #[.slice (some ⟨g,0,none⟩) ps.length cap] 114):=⟨_,rfl⟩
  have hbx:w1.heap[w.heap.size]? = some (.cells #[.slice (some ⟨g,0,none⟩) ps.length cap] 114 (0,0)):=by rw[hw1];exact heap_new _ _
  rw[←hw1] at hb1 ⊢;clear hw1;have k0:=keepC hb1 c0;have k1:=keepC hb1 c1;have k3:=keepC hb1 c3';have ke:=keepC hb1 e1;have ky:=keepC hb1 y3;have hkp:=cell_lt k0;have hkg:=cell_lt ke
  have hky:=cell_lt ky;have HTJ:Hid (w1.cell? ⟨nb,0,none⟩=some (.map (some mb))):=keepC hb1 cn
  have HRB:Hid (w1.cell? ⟨w.heap.size,0,none⟩=some (.slice (some ⟨g,0,none⟩) ps.length cap)):=by show _=_;rw[cell_of hbx];rfl
  have HB1:=hide hb1;have HBX:=hide hbx;clear hb1 hbx c0 c1 c3' e1 y3 cn;refine cm (unhide HIF w1 HB1.out) ?_;rintro e w2 ⟨rfl,hw2⟩;obtain rfl:w1=w2:=hw2.symm;clear hw2 HIF;exact zrhX
 ):G:=h
theorem zri {G:Prop}(h:G:=by
  have _h1:=hL;have _h2:=hal;clear _h1 _h2;obtain⟨i0,hi,hz0,hz1,hz2⟩:=info_parts infoRT;have hps:=pastN_stop gapB s j hlt hng;rw[hps] at he;have HE:=hide he;have hng2:=hng
  simp only[gapB,Bool.or_eq_false_iff] at hng2;obtain⟨g1,g2⟩:=hng2;have HI:=hide hinv;obtain⟨rc0,rc1,rf0,rf1⟩:=hinv.cells;have HLR:=hide (hinv.lists hL);clear he hinv hng hps hL;exact zriX
 ):G:=h
theorem zrj {G:Prop}(h:G:=by
  have HD:=hide hd;clear hd;have hL1:Lists ws gs (w.alloc O35):=hL.later ((Below.refl _ _).alloc (Nat.le_refl _) _);have HLS:=hide hL1;have HR:=hide hr;have HL:=hide hl;clear hL hL1 hr hl
  go_enter Tryz.func100,Tryz.ntmps100;go_wp2_with fail;refine(letter_any _).mono ?_;rintro e1 w1 ⟨x,rfl,⟨f1,c1,rfl,ef1,hf1⟩,hbel⟩;have HF1:=hide (hf1 w1 (Below.refl _ _));have HBEL:=hide hbel
  clear hf1 hbel;go_wp2_with fail;refine cm (unhide HF1 _) ?_;rw[HL.out];rintro e2 w2 ⟨rfl,rfl⟩;go_wp2_with fail;refine(digit_any _).mono ?_;rintro e3 w3 ⟨x3,rfl,⟨f3,c3,rfl,ef3,hf3⟩,hbel3⟩
  have HF3:=hide (hf3 w3 (Below.refl _ _));have HBEL3:=hide (HBEL.out.trans (hbel3.mono HBEL.out.size));clear hf3 hbel3;go_wp2_with fail;refine cm (unhide HF3 _) ?_;rw[HD.out];rintro e4 w4 ⟨rfl,rfl⟩
  go_wp2_with fail;exact zrjX
 ):G:=h
theorem zrk {G:Prop}(h:G:=by
  have HS0:=hide (Stn.new h);have hc:=rnext_any c (w.alloc nd0) i tLBrace (by decide) HS0.out.ps;rw[decide_eq_false n0] at hc;have HC:=hide hc;clear hc;clear h;go_enter Tryz.func111,Tryz.ntmps111
  go_wp2_with fail;refine cm HC.out ?_;rintro e w1 ⟨rfl,hb⟩;have HS1:=hide (HS0.out.below hb);clear hb HC HS0;exact zrkX
 ):G:=h
theorem zrl {G:Prop}(h:G:=by
  have hbA:Below w.heap.size w (w.alloc (.cells #[.pointer oa,.bool false] 112)):=(Below.refl _ _).alloc (Nat.le_refl _) _;obtain⟨w2,hw2⟩:∃ w2,w2=w.alloc (.cells #[.pointer oa,.bool sb] 112):=⟨_,rfl⟩
  have HB2:Hid (Below w.heap.size w w2):=by show Below _ _ _;rw[hw2];exact(Below.refl _ _).alloc (Nat.le_refl _) _
  have HP2:Hid (w2.heap[w.heap.size]? = some (.cells #[.pointer oa,.bool sb] 112 (0,0))):=by show _=_;rw[hw2];exact heap_new _ _
  have HW2:=hide hw2;clear hw2;go_enter Tryz.func68,Tryz.ntmps68;go_wp2_with fail;refine cm (unhide HST _ hbA) ?_;rintro e wx ⟨rfl,hwx⟩;rw[hwx];clear hwx wx;go_wp2_with fail;rw[←HW2.out]
  have hs2:w2.heap.size=w.heap.size+1:=by rw[HW2.out];simp
  have HX0:Hid (w2.cell? ⟨w.heap.size,0,none⟩=some (.pointer oa)):=by show _=_;rw[cell_of HP2.out];rfl
  have HX1:Hid (w2.cell? ⟨w.heap.size,1,none⟩=some (.bool sb)):=by show _=_;rw[cell_of HP2.out];rfl
  exact zrlX
 ):G:=h
theorem zrm {G:Prop}(h:G:=by
  have hbA:Below w.heap.size w (w.alloc (.cells #[.pointer oa,.bool false] 112)):=(Below.refl _ _).alloc (Nat.le_refl _) _;obtain⟨w2,hw2⟩:∃ w2,w2=w.alloc (.cells #[.pointer oa,.bool sb] 112):=⟨_,rfl⟩
  have HB2:Hid (Below w.heap.size w w2):=by show Below _ _ _;rw[hw2];exact(Below.refl _ _).alloc (Nat.le_refl _) _
  have HP2:Hid (w2.heap[w.heap.size]? = some (.cells #[.pointer oa,.bool sb] 112 (0,0))):=by show _=_;rw[hw2];exact heap_new _ _
  have HW2:=hide hw2;clear hw2;go_enter Tryz.func68,Tryz.ntmps68;go_wp2_with fail;refine cm (unhide HST _ hbA) ?_;rintro e wx ⟨rfl,hwx⟩;rw[hwx];clear hwx wx;exact zrmX
 ):G:=h
theorem zrn {G:Prop}(h:G:=by
  clear HQ;have HC:=hide (rbraces_any HF.out HNN.out HKK.out false _ d (i+1) _ hd hb0.symm (by nofun) HK2.out.ps);clear hb0;go_wp2_with fail;refine cm HC.out ?_;rintro e wv ⟨⟨v,rfl,q,rfl,hn⟩,hp2,ha2⟩
  have nb:=(ha2.block _ (lt_of_heap HK2.out.nd) (by have:=unhide HLT;omega)).trans HK2.out.nd
  clear c0 c1 c2 c3 cf cf0 cf3 hnl;obtain⟨c0,c1,c2,c3,cf⟩:=node_cells nb;have cf3:=cf 3;have hnl:=lt_of_heap nb;have hA:=HK2.out.ap.next ha2
  have HB:Hid (Below w.heap.size wv ((wv.setCell ⟨w.heap.size,3,none⟩ (.slice (some ⟨wv.heap.size,0,none⟩) 1 1)).alloc (.cells #[nPtr q] 22))):=((Below.refl w.heap.size wv).setCell (p:=⟨w.heap.size,3,none⟩) (Nat.le_refl _) _).alloc (by simp;omega) _
  have HA:=hide (hA.trans (Ap.of HB.out));have HP:=hide (hp2.ap HB.out HLO.out)
  have HOP:Hid (Open w.heap.size ((wv.setCell ⟨w.heap.size,3,none⟩ (.slice (some ⟨wv.heap.size,0,none⟩) 1 1)).alloc (.cells #[nPtr q] 22)) (.mk 12 noText 0 [b]) w.heap.size (.slice (some ⟨wv.heap.size,0,none⟩) 1 1) [q]):=st_open (Nat.le_refl _) (lt_of_heap HK2.out.nd) (set1 wv w.heap.size _) (by simp) ha2.size (by rw[heap_set nb];rfl) (NAts.cons hn NAts.nil) rfl #[nPtr q] rfl (by simp[maxLen])
  clear hp2 ha2 HC nb hA hn;have hx:=hc0;exact zrnX
 ):G:=h
theorem zro {G:Prop}(h:G:=by
  obtain⟨i0,hi0,hz0,hz1,hz2⟩:=info_parts info9;obtain⟨M,hM⟩:∃ M,M=P++[tArguments]:=⟨_,rfl⟩;rw[←hM];obtain⟨F,hF⟩:∃ F,F=M++N:=⟨_,rfl⟩;rw[←hF]
  have hMl:M.length=P.length+1:=by rw[hM];simp
  have HM:=hide hM;have HF:=hide hF;have HML:=hide hMl;clear hM hF hMl;obtain⟨c0,c1,⟨g,n,cap,hn2,c3,d0,d1⟩,t0,hnum,hst,⟨ua,uc,e3,htx⟩,hnm,hev,hlp,hln⟩:=h;have hpl:=cell_lt c0
  have hgl:=cell_lt d0;have htl:=cell_lt t0;have hql:=cell_lt e3;have hn0:¬ n=0:=by omega
  have hn1:¬ (n:Int)≤1:=by omega
  clear hn2;have HNUM:=hide hnum;have HST:=hide hst;have HTX:=hide htx;have HNM:=hide hnm;have HEV:=hide hev;exact zroX
 ):G:=h
theorem zrp {G:Prop}(h:G:=by
  obtain⟨g,cap,hvf,_,_⟩:=hR.1.form hp0;subst hvf;have hb1:Below w.heap.size w (w.alloc (.cells #[.slice (some ⟨g,0,none⟩) ps.length cap] 114)):=(Below.refl _ _).alloc (Nat.le_refl _) _
  have hnl:=lt_of_heap hW.num;have cn:w.cell? ⟨nb,0,none⟩=some (.map (some mb)):=by rw[cell_of hW.num];rfl
  have HNUM:Hid (∀ X,Below w.heap.size w X→(Instr.lookup 44 (.map (some mb)) (nPtr a.p) false).run Tryz.prog X=.ok (.int .i64 (pre.length:Int)) X):=fun X hX=>hW.look hA (Fm.of hX);exact zrpX
 ):G:=h
theorem zrq {G:Prop}(h:G:=by
  have HPW:=hide h;have HLT:=hide h.rlt;have h0:=h.c0;have h1:=h.c1;have f1:=h.fz 1;obtain⟨k0,k1,k2,k3⟩:=h.toks;have hlt:(i:Int)<(c.l.length:Int):=by have:=h.lt;omega
  have hl3:=h.base.len;have hR:=h.rlt;have hT:=h.base.tlt;have hR1:c.P<w.heap.size+1:=by omega
  have hR2:c.P<w.heap.size+1+1:=by omega
  have hT1:c.tb<w.heap.size+1:=by omega
  have hT2:c.tb<w.heap.size+1+1:=by omega
  have HC1:=hide (rok_new ((h.alloc (boxA c)).alloc (boxB d)));have b1:((tkA c.l i).kd==1)=false:=beq_eq_false_iff_ne.2 hn1;have b3:((tkA c.l i).kd==3)=false:=beq_eq_false_iff_ne.2 hn3
  have b4:((tkA c.l i).kd==4)=false:=beq_eq_false_iff_ne.2 hn4
  have hx:=rnext_any c (((w.alloc (boxA c)).alloc (boxB d)).alloc (tokO (tkA c.l i))).drew i tOpen (by decide) ((((h.alloc (boxA c)).alloc (boxB d)).alloc (tokO (tkA c.l i))).drew);exact zrqX
 ):G:=h
theorem zrr {G:Prop}(h:G:=by
  have HPW:=hide h;have HLT:=hide h.rlt;have h0:=h.c0;have h1:=h.c1;have f1:=h.fz 1;obtain⟨k0,k1,k2,k3⟩:=h.toks;have hlt:(i:Int)<(c.l.length:Int):=by have:=h.lt;omega
  have hl3:=h.base.len;have hR:=h.rlt;have hT:=h.base.tlt;have hR1:c.P<w.heap.size+1:=by omega
  have hR2:c.P<w.heap.size+1+1:=by omega
  have hT1:c.tb<w.heap.size+1:=by omega
  have hT2:c.tb<w.heap.size+1+1:=by omega
  have HC1:=hide (rok_new ((h.alloc (boxA c)).alloc (boxB d)));exact zrrX
 ):G:=h
theorem zrs {G:Prop}(h:G:=by
  refine wh 4 (rPtr c) HR0.out.drew ?_;refine wq1 5 fun K hK=>?_;go_simp;refine cm (fixed_any c _ i d HR0.out.drew) ?_;rintro e wq ⟨rfl,hbq⟩;have HRq:=hide (HR0.out.drew.later hbq)
  have HAq:=hide (HA0.out.next (Ap.of ((Below.refl _ _).drew.trans hbq)));clear hbq;refine hK.out _ _ HRq.out (fun _=>?_);clear hK K
  refine wg 6 (.tuple #[.nilFunc,.bool false]) rfl (Or.inl ⟨by kernel_rfl,fun W hW=>by have hh:=HL.out W hW;go_simp⟩) HRq.out ?_
  refine wh 7 (.tuple #[.nilFunc,.bool false]) HRq.out ?_;refine wh 8 .nilFunc HRq.out ?_;refine wh 9 (.bool false) HRq.out ?_;refine wh 10 .nilFunc HRq.out ?_;refine wh 11 (.bool false) HRq.out ?_
  refine wpAnyH_done (by kernel_rfl) ?_ _;go_simp;exact zrsX
 ):G:=h
theorem zrt {G:Prop}(h:G:=by
  have hbA:Below w.heap.size w (w.alloc (.cells #[.pointer oa,.bool true] 112)):=(Below.refl _ _).alloc (Nat.le_refl _) _;obtain⟨w2,hw2⟩:∃ w2,w2=w.alloc (.cells #[.pointer oa,.bool true] 112):=⟨_,rfl⟩
  have HB2:Hid (Below w.heap.size w w2):=by show Below _ _ _;rw[hw2];exact(Below.refl _ _).alloc (Nat.le_refl _) _
  have HP2:Hid (w2.heap[w.heap.size]? = some (.cells #[.pointer oa,.bool true] 112 (0,0))):=by show _=_;rw[hw2];exact heap_new _ _
  have HW2:=hide hw2;clear hw2;go_enter Tryz.func68,Tryz.ntmps68;go_wp2_with fail;rw[←HW2.out];have hs2:w2.heap.size=w.heap.size+1:=by rw[HW2.out];simp
  have HX0:Hid (w2.cell? ⟨w.heap.size,0,none⟩=some (.pointer oa)):=by show _=_;rw[cell_of HP2.out];rfl
  have HX1:Hid (w2.cell? ⟨w.heap.size,1,none⟩=some (.bool true)):=by show _=_;rw[cell_of HP2.out];rfl
  exact zrtX
 ):G:=h
theorem zru {G:Prop}(h:G:=by
  have hL1:Lists ws gs (w.alloc O35):=hL.later ((Below.refl _ _).alloc (Nat.le_refl _) _);have HLS:=hide hL1;have HR:=hide hr;have HL:=hide hl;clear hL hL1 hr hl;go_enter Tryz.func100,Tryz.ntmps100
  go_wp2_with fail;refine(letter_any _).mono ?_;rintro e1 w1 ⟨x,rfl,⟨f1,c1,rfl,ef1,hf1⟩,hbel⟩;have HF1:=hide (hf1 w1 (Below.refl _ _));have HBEL:=hide hbel;clear hf1 hbel;go_wp2_with fail
  refine cm (unhide HF1 _) ?_;rw[HL.out];rintro e2 w2 ⟨rfl,rfl⟩;go_wp2_with fail;exact zruX
 ):G:=h
theorem zrv {G:Prop}(h:G:=by
  have HLT:=hide h.rlt;have HLO:=hide h.base.size;have HO:=hide ho;have HF:=hide hF;have HNN:=hide hN;have HKK:=hide hK;have hdd:decide ((30:Int)<(d:Int))=false:=decide_eq_false (by omega)
  have n0:¬ fx c.l i=tLBrace:=by rw[hf];decide
  have n1:¬ fx c.l i=tSemi:=by rw[hf];decide
  have n2:¬ fx c.l i=tFunction:=by rw[hf];decide
  have n3:¬ fx c.l i=tIf:=by rw[hf];decide
  exact zrvX
 ):G:=h
theorem zrw {G:Prop}(h:G:=by
  have HIL:Hid (∀ b,I b→b<w.heap.size):=fun b hb=>(hW.ne b hb).1;have hen:=en70;have hkl:y.ks.length≤20000:=by have:=cnts_len y.ks;omega
  have HRR:=hide hR;have hgw:g<w.heap.size:=(own_lt hR.1 g rfl).1;have hpl2:ps.length≤20000:=by omega
  have hkt:a.tr.kd=a.kd:=a.tr_eq.1;have hxt:a.tr.tx=a.tx:=a.tr_eq.2.1;rw[hkt,hxt,hkd] at HEND0;clear hrow hR hW ha hi hws hT hA hpl hL hm hcnt hcy hty hta htx2 hlat hak hfun hy hym hks hkt hxt
  generalize a.p=p at *
  generalize y.p=py at *
  generalize a.tx=tx at *
  generalize y.ks=es at *
  generalize onceL (x.tr.kids.map Tr.tx)=N1 at *
  generalize namesT y.tr true=N2 at *
  exact zrwX
 ):G:=h
theorem zrx {G:Prop}(h:G:=by
  have hbA:Below w.heap.size w (w.alloc (.cells #[.pointer oa,.bool true] 112)):=(Below.refl _ _).alloc (Nat.le_refl _) _;obtain⟨w2,hw2⟩:∃ w2,w2=w.alloc (.cells #[.pointer oa,.bool true] 112):=⟨_,rfl⟩
  have HB2:Hid (Below w.heap.size w w2):=by show Below _ _ _;rw[hw2];exact(Below.refl _ _).alloc (Nat.le_refl _) _
  have HP2:Hid (w2.heap[w.heap.size]? = some (.cells #[.pointer oa,.bool true] 112 (0,0))):=by show _=_;rw[hw2];exact heap_new _ _
  have HW2:=hide hw2;clear hw2;go_enter Tryz.func68,Tryz.ntmps68;exact zrxX
 ):G:=h
theorem zry {G:Prop}(h:G:=by
  have hL3:SRow w1.heap.size (wd.alloc (.cells #[.string tx] 9)) (.slice (some ⟨wd.heap.size,0,none⟩) 1 1) [tx]:=⟨rfl,Or.inr ⟨wd.heap.size,1,#[.string tx],rfl,hS0.size,heap_new _ _,Nat.le_refl _,by decide,rfl,rfl⟩⟩
  refine hK.out _ _ (fun _=>hS1) ?_;clear hK K;obtain⟨gl,hgl⟩:∃ gl,gl=wd.heap.size:=⟨_,rfl⟩;obtain⟨we,hwe⟩:∃ we,we=wd.alloc (.cells #[.string tx] 9):=⟨_,rfl⟩;rw[←hwe] at hS1 hL3 ⊢
  rw[←hgl] at hL3 ⊢;clear hgl hwe hS0;refine uh 9 (.agg #[.int .i64 (pre.length:Int),.slice (some ⟨gl,0,none⟩) 1 1,.bool false]) hS1 ?_
  have HPUT:=hide (put_any (pre.length:Int) (some ⟨gl,0,none⟩) 1 1 false _ ps.length (rgCells ps) w.heap.size we (keepC hS1 HRB.out) (owns_stay (I:=fun _=>True) (fun b _ hl=>(HB1.out.trans (hS1.mono HB1.out.size)).block b hl) (fun _ _=>trivial) HRR.out.1) hp0 (by omega) HRR.out.ones)
  refine uq1 10 fun K hK=>?_;go_simp;refine cm HPUT.out ?_;rintro e w5 ⟨⟨v',rfl,hr5⟩,hb5⟩;have hS5:Below w1.heap.size w1 w5:=hS1.trans (hb5.mono hS1.size);have hL5:=SRow.later hL3 hb5
  obtain⟨va,vc,rfl⟩:=srow_form hr5;refine hK.out _ _ (fun _=>hS5) ?_;have hbx5:=(hS5.block _ (lt_of_heap HBX.out)).trans HBX.out
  have y0:w5.cell? ⟨w.heap.size,0,none⟩=some (.slice (some ⟨g,0,none⟩) ps.length cap):=by rw[cell_of hbx5];rfl
  have yf:=frozen_of hbx5 0;have yl:=lt_of_heap hbx5;have HK5:=hide hS5;have HX5:=hide hbx5;have HL5:=hide hL5;have HR5:=hide hr5;have HS1':=hide hS1;clear hK K HPUT hr5 hbx5 hS5 hL5 hb5 hL3 hS1
  refine uq1 11 fun K hK=>?_;go_simp;refine hK.out _ _ (fun e=>by cases e) ?_;clear hK K;refine udone (by kernel_rfl) ?_ _
  obtain⟨wj,hwj⟩:∃ wz,wz=w5.setCell ⟨w.heap.size,0,none⟩ (.slice va (ps.length+1) vc):=⟨_,rfl⟩;have hset:∀ b,b≠w.heap.size→wj.heap[b]? = w5.heap[b]?:=fun b hb=>by rw[hwj];exact ne_set hb _
  have hszj:wj.heap.size=w5.heap.size:=by rw[hwj];simp
  have HBJ:Hid (Below w.heap.size w wj):=by
   show Below _ _ _
   rw[hwj];exact zbei
  have hkeep:∀ {b o:Nat} {u:Value},w1.cell? ⟨b,o,none⟩=some u→b≠w.heap.size→wj.cell? ⟨b,o,none⟩=some u:=fun {b o u} h hb=>by
   rw[World.cell?_of_block (w:=w5) (a:=⟨b,o,none⟩) (hset b hb)];exact keepC HK5.out h
  have hbxj:wj.heap[w.heap.size]? = some (.cells #[.slice va (ps.length+1) vc] 114 (0,0)):=by rw[hwj,heap_set HX5.out];rfl
  obtain⟨ps1,hps1⟩:∃ q:List (Value × Sc),q=ps++[(.slice (some ⟨gl,0,none⟩) 1 1,⟨pre.length,[tx],false⟩)]:=⟨_,rfl⟩;have hwe1:=(unhide HS1').size;have hw5s:=HK5.out.size
  have HRJ:Hid (RR (fun b=>I b∨(w.heap.size<b∧b<wj.heap.size)) wj (.slice va (ps.length+1) vc) ps1):=by
   exact zbcp
  have HL1:Hid (0<ps1.length∧ps1.length≤ps.length+1):=by rw[hps1];exact⟨by simp,by simp⟩
  have HCH:Hid ((ps1.map Prod.snd).reverse=if ((37:Int)==37 && !decide (tx=noText))=true then ⟨pre.length,[tx],false⟩::(ps.map Prod.snd).reverse else (ps.map Prod.snd).reverse):=by
   show _=_
   rw[hps1];simp[htx]
  exact zryX
 ):G:=h
theorem zrz {G:Prop}(h:G:=by
  have HLT:=hide h.rlt;have HLO:=hide h.base.size;have HO:=hide ho;have HF:=hide hF;have HNN:=hide hN;have HKK:=hide hK;have hdd:decide ((30:Int)<(d:Int))=false:=decide_eq_false (by omega)
  have n0:¬ fx c.l i=tLBrace:=by rw[hf];decide
  have n1:¬ fx c.l i=tSemi:=by rw[hf];decide
  exact zrzX
 ):G:=h
theorem zrba {G:Prop}(h:G:=by
  clear hbq;refine hK.out _ _ HRq.out (fun _=>?_);clear hK K;refine wg 6 (.tuple #[.nilFunc,.bool false]) rfl (Or.inl ⟨by kernel_rfl,fun W hW=>by have hh:=HL.out W hW;go_simp⟩) HRq.out ?_
  refine wh 7 (.tuple #[.nilFunc,.bool false]) HRq.out ?_;refine wh 8 .nilFunc HRq.out ?_;refine wh 9 (.bool false) HRq.out ?_;refine wh 10 .nilFunc HRq.out ?_;refine wh 11 (.bool false) HRq.out ?_
  refine wpAnyH_done (by kernel_rfl) ?_ _;go_simp;exact zrbaX
 ):G:=h
theorem zrbb {G:Prop}(h:G:=by
  have HLT:=hide h.rlt;have HLO:=hide h.base.size;have HO:=hide ho;have HF:=hide hF;have HNN:=hide hN;have HKK:=hide hK;have hdd:decide ((30:Int)<(d:Int))=false:=decide_eq_false (by omega)
  exact zrbbX
 ):G:=h
end Go.Proofs.YtoimgcjbcbhclaaGreatDoor
