/-
  Parts of proofs that stand more than once.
-/
import Derived.Test.YtoimgcjbcbhclaaGreatDoorWt0
set_option maxRecDepth 100000
set_option maxHeartbeats 16000000
namespace Go.Proofs.YtoimgcjbcbhclaaGreatDoor
open Go.RowKit
theorem zrbc {G:Prop}(h:G:=by
  refine uh 15 (nPtr q1) hS7 ?_;refine uq1 16 fun K hK=>?_;go_simp;refine cm (unhide HEV _ (HB2.out.trans (hS7.mono HB2.out.size))) ?_;rintro e w8 ⟨rfl,hb8⟩
  have hS8:Below w2.heap.size w2 w8:=hS7.trans (hb8.mono hS7.size);have hr8:=SRow.later hr7 hb8;refine hK.out _ _ (fun _=>hS8) ?_;clear hK K hb8 hS7 hr7;refine uh 17 (.bool ev) hS8 ?_
  refine uh 18 (.agg #[.int .i64 (no:Int),.slice a7 F.length c7,.bool ev,.pointer none]) hS8 ?_;refine uq1 19 fun K hK=>?_;go_simp;refine cm (in_any _ false no a7 F.length c7 ev none w8) ?_
  rintro e w9 ⟨⟨rfl,hk9⟩,hb9⟩;have hS9:Below w2.heap.size w2 w9:=hS8.trans (hb9.mono hS8.size);have hr9:=SRow.later hr8 hb9
  have hr2:w9.heap[w.heap.size+1]? = some (.cells #[.pointer none,.bool false] 112 (0,0)):=by rw[hS9.block _ (by omega)];exact unhide HR2
  have q0':w9.cell? ⟨w.heap.size+1,0,none⟩=some (.pointer none):=by rw[cell_of hr2];rfl
  have q1':w9.cell? ⟨w.heap.size+1,1,none⟩=some (.bool false):=by rw[cell_of hr2];rfl
  have qf:=frozen_of hr2;have hrl:=lt_of_heap hr2;have HZ:=hide hS8.size;refine hK.out _ _ (fun _=>hS9) ?_;clear hK K hS8 hr8;refine uq1 20 fun K hK=>?_;go_simp;refine hK.out _ _ (fun e=>by cases e) ?_
  clear hK K;refine udone (by kernel_rfl) ?_ _;go_simp;obtain⟨wz,hwz⟩:∃ wz,wz=(w9.setCell ⟨w.heap.size+1,0,none⟩ (sPtr (w8.heap.size+1))).setCell ⟨w.heap.size+1,1,none⟩ (.bool false):=⟨_,rfl⟩
  rw[←hwz];have hset:∀ k,k≠w.heap.size+1→wz.heap[k]? = w9.heap[k]?:=fun k hk=>by rw[hwz,ne_set hk,ne_set hk]
  have hzb:wz.heap[w.heap.size+1]? = some (.cells #[sPtr (w8.heap.size+1),.bool false] 112 (0,0)):=by rw[hwz,heap_set (heap_set hr2 _)];rfl
  have z0:wz.cell? ⟨w.heap.size+1,0,none⟩=some (sPtr (w8.heap.size+1)):=by rw[cell_of hzb];rfl
  have z1:wz.cell? ⟨w.heap.size+1,1,none⟩=some (.bool false):=by rw[cell_of hzb];rfl
  have hz8:=unhide HZ;have HK9:=hide ((hset (w8.heap.size+1) (by omega)).trans hk9)
  have HR9:Hid (SRow w.heap.size wz (.slice a7 F.length c7) F):=srow_mono (owns_stay (I:=fun b=>w2.heap.size≤b) (fun b hb _=>hset b (by have h1:w2.heap.size≤b:=hb;omega)) (fun b hb=>(own_lt hr9 b hb).2) hr9) (by omega)
  have HSZ:Hid (∀ k,k<w2.heap.size→k≠w.heap.size+1→wz.heap[k]? = w2.heap[k]?):=fun k h1 h2=>(hset k h2).trans (hS9.block k h1);have HBZ:Hid (Below w.heap.size w wz):=by
   exact zbcb
  clear hwz hset hzb hk9 hS9 hr9 hr2 q0' q1' qf hrl hb9;go_wp2_with fail
  refine bodyPost_ret (v:=plV2 (sPtr (w8.heap.size+1)) false) (by simp[results,Tryz.results128,go_sem,z0,z1]) rfl ⟨⟨w8.heap.size+1,_,_,rfl,by omega,HK9.out,HR9.out,?_⟩,HBZ.out⟩;exact zrbcX
 ):G:=h
theorem zrbd {G:Prop}(h:G:=by
  rw[decide_eq_false n5] at hc;have HC:=hide hc;clear hc;go_wp2_with fail;refine cm HC.out ?_;rintro e w6 ⟨rfl,hb⟩;have HS6:=hide (HS5.out.below hb);clear hb HC HS5
  have HC:=hide (rskip_yes c w6 i tTry (by decide) hf HS6.out.ps);go_wp2_with fail;refine cm HC.out ?_;rintro e w7 ⟨rfl,hp,ha⟩;have HS7:=hide (HS6.out.on HLT.out hp ha);clear hp ha HC HS6;clear ho hF hN hK
  obtain⟨i0,hi0,hz0,hz1,hz2⟩:=info_parts info22;have HK2:=hide (HS7.out.kind HLO.out 12);have hPN:c.P<w.heap.size:=unhide HLT;have nb:=HS7.out.nd;obtain⟨c0,c1,c2,c3,cf⟩:=node_cells nb
  have cf0:=cf 0;have cf3:=cf 3;have hnl:=lt_of_heap nb;clear nb;exact zrbdX
 ):G:=h
theorem zrbe {G:Prop}(h:G:=by
  have HC:=hide (take_yes c tCatch wn i1 d HRn.out hc (by decide));go_wp2_with fail;refine cm HC.out ?_;rintro e wc ⟨rfl,hrd,ha⟩;clear HC;have HRc:=hide hrd;have HAc:=hide (HAn.out.next ha)
  replace HOP:=hide (Open.later HOP.out (ha) HLT.out);clear hrd ha;have HC:=hide (must_any c tOpen wc (i1+1) d HRc.out (by decide));rw[h2] at HC;go_wp2_with fail;refine cm HC.out ?_;intro e wd hp
  obtain⟨⟨vd,rfl,rfl⟩,hrd,ha⟩:=hp;clear HC;have HRd:=hide hrd;have HAd:=hide (HAc.out.next ha);replace HOP:=hide (Open.later HOP.out (ha) HLT.out);clear hrd ha
  have HC:=hide (name_any c wd i2 d HRd.out);rw[h3] at HC;go_wp2_with fail;refine cm HC.out ?_;intro e we hp;obtain⟨⟨ve,rfl,rfl⟩,hrd,ha⟩:=hp;clear HC;have HRe:=hide hrd
  have HAe:=hide (HAd.out.next ha);replace HOP:=hide (Open.later HOP.out (ha) HLT.out);clear hrd ha;have HC:=hide (must_any c tShut we i3 d HRe.out (by decide));rw[h4] at HC;go_wp2_with fail
  refine cm HC.out ?_;intro e wg1 hp;obtain⟨⟨vg1,rfl,rfl⟩,hrd,ha⟩:=hp;clear HC;have HRg1:=hide hrd;have HAg1:=hide (HAe.out.next ha);replace HOP:=hide (Open.later HOP.out (ha) HLT.out);clear hrd ha
  have HCC:=hide (block_any hF hN wg1.drew d i4 _ rfl (by rw[h5];nofun) HRg1.out.drew)
  rw[h5] at HCC;obtain⟨hc3,hcf,hcl⟩:=HOP.out.cell;exact zrbeX
 ):G:=h
theorem zrbf {G:Prop}(h:G:=by
  go_enter Tryz.func70,Tryz.ntmps70;go_wp2_with fail;obtain⟨w1,hw1⟩:∃ w1,w1=w.alloc (.cells #[.slice (some ⟨g,0,none⟩) ps.length cap] 114):=⟨_,rfl⟩
  have hbx:w1.heap[w.heap.size]? = some (.cells #[.slice (some ⟨g,0,none⟩) ps.length cap] 114 (0,0)):=by rw[hw1];exact heap_new _ _
  rw[←hw1] at hb1 ⊢;exact zrbfX
 ):G:=h
theorem zrbg {G:Prop}(h:G:=by
  clear h;go_enter Tryz.func311,Tryz.ntmps311;go_wp2_with fail;refine wp_region_held (S:=fun W=>Rdr c W i d) (by kernel_rfl) ?_;change wpAnyH _ _ _ _ _ _ _ _ (World.drew _);refine wh 0 (rPtr c) HR0.out.drew ?_
  refine wh 1 (rPtr c) HR0.out.drew ?_;refine wh 2 (.pointer (some ⟨c.R,5,none⟩)) HR0.out.drew ?_
  refine wg 3 (.map (some c.mV)) rfl (Or.inl ⟨by kernel_rfl,fun W hW=>by have hh:=Rdr.c5 hW;go_simp⟩) HR0.out.drew ?_
  refine wh 4 (rPtr c) HR0.out.drew ?_;refine wq1 5 fun K hK=>?_;go_simp;refine cm (fixed_any c _ i d HR0.out.drew) ?_;exact zrbgX
 ):G:=h
theorem zrbh {G:Prop}(h:G:=by
  rw[decide_eq_false n5] at hc;have HC:=hide hc;clear hc;go_wp2_with fail;refine cm HC.out ?_;rintro e w6 ⟨rfl,hb⟩;have HS6:=hide (HS5.out.below hb);clear hb HC HS5
  have HC:=hide (rskip_no c w6 i tTry (by decide) n6 HS6.out.ps);go_wp2_with fail;refine cm HC.out ?_;rintro e w7 ⟨rfl,hb⟩;have HS7:=hide (HS6.out.below hb);clear hb HC HS6
  have hc:=rnext_any c w7 i tVar (by decide) HS7.out.ps;rw[decide_eq_false n7] at hc;have HC:=hide hc;clear hc;go_wp2_with fail;refine cm HC.out ?_;rintro e w8 ⟨rfl,hb⟩;have HS8:=hide (HS7.out.below hb)
  clear hb HC HS7;have hc:=rnext_any c w8 i tLet (by decide) HS8.out.ps;rw[decide_eq_false n8] at hc;have HC:=hide hc;clear hc;go_wp2_with fail;refine cm HC.out ?_;rintro e w9 ⟨rfl,hb⟩
  have HS9:=hide (HS8.out.below hb);clear hb HC HS8;have hc:=rnext_any c w9 i tConst (by decide) HS9.out.ps;rw[decide_eq_false n9] at hc;have HC:=hide hc;clear hc;go_wp2_with fail;refine cm HC.out ?_
  rintro e w10 ⟨rfl,hb⟩;have HS10:=hide (HS9.out.below hb);clear hb HC HS9;exact zrbhX
 ):G:=h
theorem zrbi {G:Prop}(h:G:=by
  go_enter Tryz.func311,Tryz.ntmps311;go_wp2_with fail;refine wp_region_held (S:=fun W=>Rdr c W i d) (by kernel_rfl) ?_;change wpAnyH _ _ _ _ _ _ _ _ (World.drew _);refine wh 0 (rPtr c) HR0.out.drew ?_
  refine wh 1 (rPtr c) HR0.out.drew ?_;refine wh 2 (.pointer (some ⟨c.R,5,none⟩)) HR0.out.drew ?_
  refine wg 3 (.map (some c.mV)) rfl (Or.inl ⟨by kernel_rfl,fun W hW=>by have hh:=Rdr.c5 hW;go_simp⟩) HR0.out.drew ?_
  exact zrbiX
 ):G:=h
theorem zrbj {G:Prop}(h:G:=by
  have hr1:w1.heap[w.heap.size+1]? = some (.cells #[.pointer none,.bool false] 112 (0,0)):=by rw[hw1];exact hrA
  have a3:=keepC hbA.drew c3;have b0:=keepC hbA.drew d0;have b1:=keepC hbA.drew d1;have HW1:=hide hw1;have HWA:=hide hwA;have k0:=keepC hb1 c0;have k1:=keepC hb1 c1;have k3:=keepC hb1 e3
  have s0:w1.cell? ⟨w.heap.size,0,none⟩=some (.pointer oa):=by rw[cell_of hp1];rfl
  exact zrbjX
 ):G:=h
theorem zrbk {G:Prop}(h:G:=by
  go_enter Tryz.func297,Tryz.ntmps297;go_wp2_with fail;refine cm HC1.out ?_;rintro e w1 ⟨rfl,rfl⟩;clear HC1;go_wp2_with fail
  go_region
  go_wp2_with fail;refine cm HX.out ?_;rintro e w1 ⟨rfl,hb⟩;have HP1:=hide (((((HPW.out.alloc (boxA c)).alloc (boxB d)).alloc (tokO (tkA c.l i))).drew).later hb)
  have HA1:=hide ((fst_ap c w d (tokO (tkA c.l i))).next (Ap.of hb));have HB1:=hide ((box2_new c w d (tokO (tkA c.l i)) hR).ap (Ap.of hb))
  have HT1:Hid (w1.heap[w.heap.size+2]? = some (tokO (tkA c.l i))):=(hb.block (w.heap.size+2) (by simp)).trans (new_obj (by simp));have q0:=HB1.out.p.cell;clear hb HX h0 h1 k0 k1 k2 k3;exact zrbkX
 ):G:=h
theorem zrbl {G:Prop}(h:G:=by
  go_enter Tryz.func312,Tryz.ntmps312;have HC:=hide (token_any c w i d HR0.out);unfold tkV at HC;have hfl:=fldKind (tkA c.l i);go_wp2_with fail;refine cm HC.out ?_;rintro e wt ⟨rfl,hbt⟩;clear HC
  have HRt:=hide (HR0.out.later hbt);have HBt:=hide hbt;clear hbt;go_wp2_with fail;refine wp_region_held (S:=fun W=>Rdr c W i d) (by kernel_rfl) ?_;change wpAnyH _ _ _ _ _ _ _ _ (World.drew _)
  refine wh 0 (rPtr c) HRt.out.drew ?_;refine wh 1 (rPtr c) HRt.out.drew ?_;refine wh 2 (.pointer (some ⟨c.R,5,none⟩)) HRt.out.drew ?_
  refine wg 3 (.map (some c.mV)) rfl (Or.inl ⟨by kernel_rfl,fun W hW=>by have hh:=Rdr.c5 hW;go_simp⟩) HRt.out.drew ?_
  refine wh 4 (rPtr c) HRt.out.drew ?_;refine wq1 5 fun K hK=>?_;go_simp;refine cm (fixed_any c _ i d HRt.out.drew) ?_;rintro e wq ⟨rfl,hbq⟩;have HRq:=hide (HRt.out.drew.later hbq)
  have HBq:=hide (HBt.out.trans (((Below.refl _ _).drew.trans hbq).mono HBt.out.size));exact zrblX
 ):G:=h
theorem zrbm {G:Prop}(h:G:=by
  refine uh 1 (sPtr tb) hS0 ?_;refine uh 2 (sPtr tb) hS0 ?_;refine uh 3 (.pointer (some ⟨tb,0,none⟩)) hS0 ?_
  refine ug 4 (.map (some mb)) rfl (Or.inl ⟨by kernel_rfl,fun X hX=>by have h0:=keepC hX HT2.out;go_simp⟩) hS0 ?_
  refine uh 5 (nPtr p) hS0 ?_;refine ug 6 (.int .i64 (no:Int)) rfl (Or.inl ⟨by kernel_rfl,fun X hX=>by have h0:=unhide HNUM X (HB2.out.trans (hX.mono HB2.out.size));go_simp⟩) hS0 ?_
  exact zrbmX
 ):G:=h
theorem zrbn {G:Prop}(h:G:=by
  clear hr HQ2;go_wp2_with fail;refine cm HC2.out ?_;rintro e wv ⟨⟨v,rfl,q2,rfl,hn2⟩,hp2,ha2⟩;have nb:=(ha2.block _ (lt_of_heap HNB.out) (by have:=unhide HLT;omega)).trans HNB.out
  obtain⟨c0,c1,c2,c3,cf⟩:=node_cells nb;have cf3:=cf 3;have hnl:=lt_of_heap nb;have hA:=HA0.out.next ha2
  have HB:Hid (Below w.heap.size wv ((wv.setCell ⟨w.heap.size,3,none⟩ (.slice (some ⟨wv.heap.size,0,none⟩) 2 2)).alloc (.cells #[nPtr q,nPtr q2] 22))):=((Below.refl w.heap.size wv).setCell (p:=⟨w.heap.size,3,none⟩) (Nat.le_refl _) _).alloc (by simp;omega) _
  have HA:=hide (hA.trans (Ap.of HB.out));have HP:=hide (hp2.ap HB.out HLO.out);have HZW:=hide (lt_of_heap HK2.out.nd)
  have n1':=nats_two ⟨q,rfl,HN0.out⟩ ha2 (by have h1:=unhide HLT;have h2:=unhide HZW;omega) HZ0.out hn2
  exact zrbnX
 ):G:=h
theorem zrbo {G:Prop}(h:G:=by
  have HAt2:=hide (HAwt.out.alloc HAwt.out.size (.cells #[.int .i64 (tkA c.l i).kd,.string (tkA c.l i).tx,.int .i64 (tkA c.l i).n,.int .i64 ((tkA c.l i).pl:Int)] 138))
  have HRt2:=hide (HRwt.out.alloc (.cells #[.int .i64 (tkA c.l i).kd,.string (tkA c.l i).tx,.int .i64 (tkA c.l i).n,.int .i64 ((tkA c.l i).pl:Int)] 138));exact zrboX
 ):G:=h
theorem zrbp {G:Prop}(h:G:=by
  refine uh 2 (sPtr tb) hS0 ?_;refine uh 3 (.pointer (some ⟨tb,0,none⟩)) hS0 ?_;refine ug 4 (.map (some mb)) rfl (Or.inl ⟨by kernel_rfl,fun X hX=>by have h0:=keepC hX HT2.out;go_simp⟩) hS0 ?_
  refine uh 5 (nPtr p) hS0 ?_;refine ug 6 (.int .i64 (no:Int)) rfl (Or.inl ⟨by kernel_rfl,fun X hX=>by have h0:=unhide HNUM X (HB2.out.trans (hX.mono HB2.out.size));go_simp⟩) hS0 ?_
  exact zrbpX
 ):G:=h
theorem zrbq {G:Prop}(h:G:=by
  have hlt:6<w.heap.size:=(Array.getElem?_eq_some_iff.1 hg).1;have HE:=hide he;have HG:=hide hg;have HN:=hide hn;have HW:=hide hw;clear hg hn he hw;go_enter Tryz.func157,Tryz.ntmps157;go_wp2_with fail
  refine(lod_any _).mono ?_;rintro e1 w1 ⟨x,rfl,hx,hbel⟩;obtain⟨hc,hf⟩:=bcell hbel;have HBEL:=hide hbel;have HX:=hide hx;clear hx hbel;go_wp2_with fail
  have hpast:=past_any s k x lodB w1 (by unfold maxLen;omega) (by omega) HX.out
  rw[HE.out] at hpast;refine hpast.mono ?_;clear hpast;rintro e2 w2 ⟨rfl,rfl⟩;have HG2:Hid (w2.heap[6]? = some (.cells (ws.map Value.string).toArray t fr)):=by
   exact zbfu
  go_wp2_with fail;refine(isWord_any ws (s.extract k e) w2 HN.out t fr HG2.out).mono ?_;rw[HW.out];rintro e3 w3 ⟨rfl,rfl⟩;go_wp2_with fail;exact zrbqX
 ):G:=h
theorem zrbr {G:Prop}(h:G:=by
  have HNO:=hide hno;have HLET:=hide hlet;have HDIG:=hide hdig;clear hlet hdig HE hrd hno
  conv=>arg 2;whnf
  unfold fr Q6;go_wp2_with fail;refine(isLetter_any _ _).mono ?_;rw[HLET.out];rintro e1 w1 ⟨rfl,rfl⟩;go_wp2_with fail;refine(isDigit_any _ _).mono ?_;rw[HDIG.out];rintro e1 w1 ⟨rfl,rfl⟩;go_wp2_with fail
  have HCE:=hide (signs_cells w1)
  have HI1:=hide (HI.out.later ((Below.refl _ _).alloc (Nat.le_refl _) (.cells #[.string ⟨#[61,61,61]⟩,.string ⟨#[38,38]⟩,.string ⟨#[124,124]⟩,.string ⟨#[40]⟩,.string ⟨#[41]⟩,.string ⟨#[123]⟩,.string ⟨#[125]⟩,.string ⟨#[91]⟩,.string ⟨#[93]⟩,.string ⟨#[59]⟩,.string ⟨#[58]⟩,.string ⟨#[44]⟩,.string ⟨#[46]⟩,.string ⟨#[61]⟩,.string ⟨#[43]⟩,.string ⟨#[45]⟩,.string ⟨#[42]⟩,.string ⟨#[60]⟩,.string ⟨#[33]⟩] 9)))
  obtain⟨N,hN⟩:∃ N,N=w1.heap.size:=⟨_,rfl⟩
  obtain⟨W1,hW1⟩:∃ W1,W1=w1.alloc (.cells #[.string ⟨#[61,61,61]⟩,.string ⟨#[38,38]⟩,.string ⟨#[124,124]⟩,.string ⟨#[40]⟩,.string ⟨#[41]⟩,.string ⟨#[123]⟩,.string ⟨#[125]⟩,.string ⟨#[91]⟩,.string ⟨#[93]⟩,.string ⟨#[59]⟩,.string ⟨#[58]⟩,.string ⟨#[44]⟩,.string ⟨#[46]⟩,.string ⟨#[61]⟩,.string ⟨#[43]⟩,.string ⟨#[45]⟩,.string ⟨#[42]⟩,.string ⟨#[60]⟩,.string ⟨#[33]⟩] 9):=⟨_,rfl⟩
  rw[←hW1,←hN];rw[←hW1,←hN] at HCE;rw[←hW1] at HI1;clear hW1 hN rc0 rc1 rf0 rf1 HLR;obtain⟨rc0,rc1,rf0,rf1⟩:=HI1.out.cells;exact zrbrX
 ):G:=h
theorem zrbs {G:Prop}(h:G:=by
  have HB:Hid (Below w.heap.size wv ((wv.setCell ⟨w.heap.size,3,none⟩ (.slice (some ⟨wv.heap.size,0,none⟩) 1 1)).alloc (.cells #[nPtr q] 22))):=((Below.refl w.heap.size wv).setCell (p:=⟨w.heap.size,3,none⟩) (Nat.le_refl _) _).alloc (by simp;omega) _
  have HA:=hide (hA.trans (Ap.of HB.out));exact zrbsX
 ):G:=h
theorem zrbt {G:Prop}(h:G:=by
  have HL:Hid (∀ W:World,Rdr c W i d→(Instr.lookup 201 (.map (some c.mV)) (.string (fx c.l i)) true).run Tryz.prog W=.ok (.tuple #[.nilFunc,.bool false]) W):=fun W hW=>by
   exact zbdg
  clear hq;have HR0:=hide h;have HA0:=hide (Ap.refl c.R w.heap.size w);have HLT:=hide h.rlt;have HEN:=hide h.base.ends;have HLL:=hide h.lt;have hL:=h.base.len;have HSG:=hide hsg;exact zrbtX
 ):G:=h
theorem zrbu {G:Prop}(h:G:=by
  have HX1:Hid (w2.cell? ⟨w.heap.size,1,none⟩=some (.bool false)):=by show _=_;rw[cell_of HP2.out];rfl
  have HT2:Hid (w2.cell? ⟨tb,0,none⟩=some (.map (some mb))):=keepC HB2.out HT0.out;have hs2:=unhide HS2;refine cm (unhide HTX _ HB2.out) ?_;rintro e w3 ⟨⟨u3,rfl,hr3⟩,hb3⟩
  obtain⟨a3,c3,rfl⟩:=srow_form hr3;have HR3:=hide hr3;have HB3:=hide hb3;have hz3:=hb3.size;clear hr3 hb3
  go_wp2_with (at_builtin;refine wpList_append_lies _ rfl _ _ 38 rfl w2.heap.size 9 i0 (.string ByteArray.empty) 1 16 Tryz.underlying38 hi0 hz0 hz1 hz2 rfl (by decide) _ _ _ rfl (HR3.out.alloc _) ⟨w3.heap.size,0,none⟩ 1 1 [.string tArguments] rfl rfl (hoCellsS w3 tArguments _ rfl) (hoOneS tArguments) (by decide) (by unfold maxLen;omega) (by omega) (by simp;omega) (w3.heap.size+1) (by simp) ?_)
  intro g4 cap4 w4 hown4 hgr4 _ _;have HR4:Hid (SRow w2.heap.size w4 (.slice (some ⟨g4,0,none⟩) (P.length+1) cap4) M):=by
   exact zcbl
  have HB4:Hid (Below w2.heap.size w2 w4):=HB3.out.trans (((Below.refl w2.heap.size w3).alloc hz3 _).grown hgr4 (by simp;omega) (fun b hb=>(own_lt HR3.out b hb).2))
  clear hown4 hgr4 HR3 HB3 hz3;go_wp2_with fail;have hS0:Below w2.heap.size w2 w4.drew:=HB4.out.drew;have hr4:SRow w2.heap.size w4.drew (.slice (some ⟨g4,0,none⟩) (P.length+1) cap4) M:=unhide HR4
  obtain⟨w5,hw5⟩:∃ w5,w5=w4.drew:=⟨_,rfl⟩;refine wp_region_U 20 (fun X=>Below w2.heap.size w2 X) (by kernel_rfl) ?_;rw[←hw5] at hS0 hr4 ⊢;clear hw5 HB4 HR4;exact zrbuX
 ):G:=h
theorem zrbv {G:Prop}(h:G:=by
  have HOB:=hide hOB;clear hown hk4 hkt HK4 HN4 hOB hlen
  go_wp2_with (at_builtin;refine wpList_append_lies _ rfl _ _ 46 rfl w.heap.size 22 i0 (.pointer none) 1 8 Tryz.underlying46 hi0 hz0 hz1 hz2 rfl (by decide) _ _ _ rfl (HOWN.out.alloc _) ⟨w4.heap.size,0,none⟩ 1 1 [nPtr p4] rfl rfl (one_cells w4 p4 _ rfl) (one_one p4) (by decide) (by unfold maxLen;omega) (by omega) (by simp;omega) (w4.heap.size+1) (by simp) ?_)
  intro g cap w5 hown' hgrow hg _;have HK5:Hid (KV w.heap.size w5 (acc++[t]) (.slice (some ⟨g,0,none⟩) (acc.length+1) cap)):=kv_push HKK.out (by rw[List.map_append];exact hown') (by simp[HLEN.out]) hgrow hg
  have HA5:=hide ((HA4.out.alloc hsz (.cells #[nPtr p4] 22)).grown hgrow (by simp;omega) (fun k hk=>(unhide HOB k hk).2))
  exact zrbvX
 ):G:=h
theorem zrbw {G:Prop}(h:G:=by
  rintro e w4 ⟨⟨rfl,hk4⟩,hb4⟩;have hS4:Below w2.heap.size w2 w4:=hS3.trans (hb4.mono hS3.size);have hr4:=SRow.later hr3 hb4;obtain⟨b2,hb2e⟩:∃ b2,b2=w3.heap.size+1:=⟨_,rfl⟩
  have hb2g:w2.heap.size≤b2:=by rw[hb2e];have:=hS3.size;omega
  rw[←hb2e] at hk4 ⊢;have hp4:w4.heap[w.heap.size]? = some (.cells #[.pointer oa,.bool true] 112 (0,0)):=by rw[hS4.block _ (by omega)];exact unhide HP2
  have q0':w4.cell? ⟨w.heap.size,0,none⟩=some (.pointer oa):=by rw[cell_of hp4];rfl
  have q1':w4.cell? ⟨w.heap.size,1,none⟩=some (.bool true):=by rw[cell_of hp4];rfl
  have qf:=frozen_of hp4;have hrl:=lt_of_heap hp4;refine hK.out _ _ (fun _=>hS4) ?_;clear hK K hb2e;exact zrbwX
 ):G:=h
theorem zrbx {G:Prop}(h:G:=by
  rintro e w4 ⟨⟨rfl,hk4⟩,hb4⟩;have hS4:Below w2.heap.size w2 w4:=hS3.trans (hb4.mono hS3.size);have hr4:=SRow.later hr3 hb4;obtain⟨b2,hb2e⟩:∃ b2,b2=w3.heap.size+1:=⟨_,rfl⟩
  have hb2g:w2.heap.size≤b2:=by rw[hb2e];have:=hS3.size;omega
  rw[←hb2e] at hk4 ⊢;have hp4:w4.heap[w.heap.size]? = some (.cells #[.pointer oa,.bool sb] 112 (0,0)):=by rw[hS4.block _ (by omega)];exact unhide HP2
  have q0':w4.cell? ⟨w.heap.size,0,none⟩=some (.pointer oa):=by rw[cell_of hp4];rfl
  have q1':w4.cell? ⟨w.heap.size,1,none⟩=some (.bool sb):=by rw[cell_of hp4];rfl
  have qf:=frozen_of hp4;have hrl:=lt_of_heap hp4;refine hK.out _ _ (fun _=>hS4) ?_;clear hK K hb2e;exact zrbxX
 ):G:=h
theorem zrby {G:Prop}(h:G:=by
  go_simp;refine hK.out _ _ (unhide HR') (fun _=>?_);clear hK K;refine wq1 5 fun K hK=>?_;go_simp;refine cm (HT.out _ (unhide HR')) ?_;rintro e w1 ⟨rfl,hb⟩;obtain⟨hr1,hbw,p0,p1⟩:=sf_two HR0.out hb
  obtain⟨r0,r1,r2,r3,rf,rlt⟩:=c160 p1;have HR1:=hide hr1;have HW:=hide hbw;have P0:=hide p0;have P1:=hide p1;clear hb hr1 hbw p0 p1;refine hK.out _ _ HR1.out (fun _=>?_);clear hK K
  refine wg 6 (.tuple #[.agg #[.string x.tx,.int .i64 x.kd,.int .i64 x.parts,.int .i64 x.str],.bool true]) rfl (Or.inl ⟨by kernel_rfl,fun W hW=>by have hh:=HL.out W hW;go_simp⟩) HR1.out ?_
  refine wh 7 (.tuple #[.agg #[.string x.tx,.int .i64 x.kd,.int .i64 x.parts,.int .i64 x.str],.bool true]) HR1.out ?_;refine wh 8 (.agg #[.string x.tx,.int .i64 x.kd,.int .i64 x.parts,.int .i64 x.str]) HR1.out ?_
  refine wh 9 (.bool true) HR1.out ?_;refine wq1 11 fun K hK=>?_;go_simp;clear r0 r1 r2 r3 rf rlt
  obtain⟨W2,hW2⟩:∃ W2,W2=(((w1.setCell ⟨w.heap.size+1,0,none⟩ (.string x.tx)).setCell ⟨w.heap.size+1,1,none⟩ (.int .i64 x.kd)).setCell ⟨w.heap.size+1,2,none⟩ (.int .i64 x.parts)).setCell ⟨w.heap.size+1,3,none⟩ (.int .i64 x.str):=⟨_,rfl⟩
  obtain⟨hr2,hb2,⟨q0,q1,q2,q3,qf,qlt⟩,⟨s0,s1,s2,s3,sf,slt⟩⟩:=w2_any (v0:=.string x.tx) (v1:=.int .i64 x.kd) (v2:=.int .i64 x.parts) (v3:=.int .i64 x.str) HR1.out HR0.out.base.size P0.out P1.out HW.out hW2
  exact zrbyX
 ):G:=h
theorem zrbz {G:Prop}(h:G:=by
  have HBW:∀ v,Hid (Below w.heap.size wc (w3.setCell ⟨w.heap.size,3,none⟩ v)):=fun v=>HHY.out.op.grows ((((Below.refl _ wc).alloc hsz _).alloc (by simp;omega) _).alloc (by simp;omega) _) (by simp;omega) hgr3
  have hB3:Below wc.heap.size wc _:=(((Below.refl wc.heap.size wc).alloc (Nat.le_refl _) (.cells #[nPtr pc] 22)).alloc (by simp) (nodeObj 13 s 0 (.slice (some ⟨wc.heap.size,0,none⟩) 1 1))).alloc (by simp <;> omega) (.cells #[nPtr (wc.heap.size+1)] 22)
  have hbb:w3.heap[w.heap.size]? = wc.heap[w.heap.size]?:=(hgr3.block w.heap.size (by simp;omega) (fun e=>HHY.out.op.own e.symm)).trans (hB3.block w.heap.size gcl)
  have HNW:∀ v,Hid ((w3.setCell ⟨w.heap.size,3,none⟩ v).heap[w.heap.size]? = some (nodeObj 12 noText 0 v)):=fun v=>by
   show _=_
   rw[heap_set (hbb.trans HHY.out.op.blk)];rfl
  have hp3:w3.cell? ⟨w.heap.size,3,none⟩=wc.cell? ⟨w.heap.size,3,none⟩∧w3.frozen? ⟨w.heap.size,3,none⟩=wc.frozen? ⟨w.heap.size,3,none⟩:=⟨World.cell?_of_block (w:=wc) hbb,World.frozen?_of_block (w:=wc) hbb⟩
  obtain⟨hp3c,hp3f⟩:=hp3;rw[gc3] at hp3c;rw[gcf 3] at hp3f;clear hown3 hgr3 hg3 hB3 hbb;refine wt 14 (nPtr w.heap.size) ?_;refine wt 15 (.pointer (some ⟨w.heap.size,3,none⟩)) ?_;refine wr1 16 fun K hK=>?_
  go_simp;refine hK _ _ ?_;clear hK K gc3 gcf gcl;refine wpAny_done (by kernel_rfl) ?_ _;go_simp;exact zrbzX
 ):G:=h
theorem zrca {G:Prop}(h:G:=by
  conv=>arg 2;whnf
  unfold fr Q6;go_wp2_with fail;refine(isLetter_any _ _).mono ?_;rw[HLET.out];rintro e1 w1 ⟨rfl,rfl⟩;go_wp2_with fail;refine(isDigit_any _ _).mono ?_;rw[HDIG.out];rintro e1 w1 ⟨rfl,rfl⟩;go_wp2_with fail
  exact zrcaX
 ):G:=h
theorem zrcb {G:Prop}(h:G:=by
  have hlt:=h.rlt;have HT:Hid (∀ (w:World),Rdr c w i d→Calls Tryz.prog 240 #[rPtr c] w fun e w'=>e=.returned (.string s)∧Below w.heap.size w w'):=fun w h=>by rw[hs];exact fixed_any c w i d h
  clear h hs ho;go_enter Tryz.func293,Tryz.ntmps293;go_wp2_with fail;refine wp_region_held (S:=fun W=>Rdr c W i d) (by kernel_rfl) ?_;change wpAnyH _ _ _ _ _ _ _ _ (World.drew _);refine wh 0 (rPtr c) HR.out ?_
  refine wh 1 (rPtr c) HR.out ?_;refine wh 2 (.pointer (some ⟨c.R,3,none⟩)) HR.out ?_;refine wg 3 (.map (some c.mS)) rfl (Or.inl ⟨by kernel_rfl,fun W hW=>by have hh:=Rdr.c3 hW;go_simp⟩) HR.out ?_
  refine wh 4 (rPtr c) HR.out ?_;exact zrcbX
 ):G:=h
theorem zrcc {G:Prop}(h:G:=by
  refine uh 7 (.slice (some ⟨g4,0,none⟩) (P.length+1) cap4) hS0 ?_;refine uh 8 (nPtr q1) hS0 ?_;refine uh 11 (.pointer (some ⟨w.heap.size,1,none⟩)) hS0 ?_
  refine ug 12 (.bool false) rfl (Or.inl ⟨by kernel_rfl,fun X hX=>by have h1:=keepC hX HX1.out;go_simp⟩) hS0 ?_
  refine uh 13 (.bool true) hS0 ?_;refine uq1 9 fun K hK=>?_;go_simp;refine cm (unhide HNM _ (HB2.out.trans (hS0.mono HB2.out.size))) ?_;rintro e w6 ⟨⟨u6,rfl,hr6⟩,hb6⟩;obtain⟨a6,c6,rfl⟩:=srow_form hr6
  have hS6:Below w2.heap.size w2 w6:=hS0.trans (hb6.mono hS0.size);have hr4':=SRow.later hr4 hb6;refine hK.out _ _ (fun _=>hS6) ?_;clear hK K;refine uq1 10 fun K hK=>?_
  refine step_app_row rfl _ _ 38 rfl w2.heap.size _ 9 i0 (.string ByteArray.empty) 16 Tryz.underlying38 hi0 hz0 hz1 hz2 rfl _ _ _ rfl hr4' _ _ _ rfl hr6 (srow_ones N) (by have:=unhide HML;unfold maxLen;omega) (by have:=unhide HML;omega) hS6.size ?_
  intro v7 w7 hown7 hgr7;have hr7:SRow w2.heap.size w7 v7 F:=by
   exact zcbi
  have hS7:Below w2.heap.size w2 w7:=hS6.grown hgr7 hS6.size (fun k hk=>(own_lt hr4' k hk).2);obtain⟨a7,c7,rfl⟩:=srow_form hr7;refine hK.out _ _ (fun _=>hS7) ?_;clear hK K hown7 hgr7 hr6 hb6 hr4 hr4'
  refine uh 14 (.bool true) hS7 ?_;exact zrccX
 ):G:=h
theorem zrcd {G:Prop}(h:G:=by
  have HC2:=hide (rskip_no c w1 i tFunction (by decide) HNF.out HP1.out);go_wp2_with fail;refine cm HC2.out ?_;rintro e w2 ⟨rfl,hb2⟩;have HP2:=hide (HP1.out.later hb2);have HA2:=hide (HA1.out.next (Ap.of hb2))
  have HB2:=hide (HB1.out.ap (Ap.of hb2));have HT2:=hide ((hb2.block (w.heap.size+2) (lt_of_heap HT1.out)).trans HT1.out);have q1:=HB2.out.p.cell
  have HC3:=hide (rskip_no c w2 i tLBrace (by decide) HNB.out HP2.out);clear hb2 HC2 HP1 HA1 HB1 q0 HT1;go_wp2_with fail;refine cm HC3.out ?_;rintro e w3 ⟨rfl,hb3⟩;have HP3:=hide (HP2.out.later hb3)
  have HA3:=hide (HA2.out.next (Ap.of hb3));have HB3:=hide (HB2.out.ap (Ap.of hb3));have ht3:=(hb3.block (w.heap.size+2) (lt_of_heap HT2.out)).trans HT2.out
  have t0:w3.cell? ⟨w.heap.size+2,0,none⟩=some (.int .i64 (tkA c.l i).kd):=by rw[cell_of ht3];rfl
  have t1:w3.cell? ⟨w.heap.size+2,1,none⟩=some (.string (tkA c.l i).tx):=by rw[cell_of ht3];rfl
  have htl:=lt_of_heap ht3;have q2:=HB3.out.p.cell;have hbl:=HB3.out.p.lt;have c1:=HP3.out.c1;have cf:=HP3.out.fz 1;have hPl:=HP3.out.rlt;obtain⟨m1,m2,m3,m4,e0,e1,e2,e3,e4,e5⟩:=lits_made w3
  clear hb3 HC3 HP2 HA2 HB2 q1 ht3 HT2;exact zrcdX
 ):G:=h
theorem zrce {G:Prop}(h:G:=by
  have htx2:tx.toList.isEmpty=false:=by
   exact zbhl
  have HK0:=hide k0;have HK1:=hide k1;have HT1:=hide k1;go_wp2_with fail;have hS0:Below w1.heap.size w1 w1.drew:=(Below.refl _ _).drew
  refine wp_region_U 11 (fun X=>Below w1.heap.size w1 X) (by kernel_rfl) ?_;obtain⟨wd,hwd⟩:∃ wd,wd=w1.drew:=⟨_,rfl⟩;rw[←hwd] at hS0 ⊢;clear hwd
  refine uh 0 (.func (.func 71) #[] #[.pointer (some ⟨w.heap.size,0,none⟩)]) hS0 ?_;refine uc 1 (.map (some mb)) rfl (Or.inl ⟨by kernel_rfl,fun X hX=>by have h0:=keepC hX HTJ.out;go_simp⟩) hS0 ?_
  refine uh 2 (nPtr p) hS0 ?_;refine uc 3 (.int .i64 (pre.length:Int)) rfl (Or.inl ⟨by kernel_rfl,fun X hX=>by have h0:=unhide HNUM X (HB1.out.trans (hX.mono HB1.out.size));go_simp⟩) hS0 ?_
  refine uh 4 (nPtr p) hS0 ?_;refine uh 5 (nPtr p) hS0 ?_;refine uh 6 (.pointer (some ⟨p,1,none⟩)) hS0 ?_
  refine uc 7 (.string tx) rfl (Or.inl ⟨by kernel_rfl,fun X hX=>by have h0:=keepC hX HT1.out;go_simp⟩) hS0 ?_
  refine uq1 8 fun K hK=>?_;go_simp;have hS1:Below w1.heap.size w1 (wd.alloc (.cells #[.string tx] 9)):=hS0.alloc hS0.size _;have hs1:=HB1.out.size;have hxl:w.heap.size<w1.heap.size:=lt_of_heap HBX.out
  exact zrceX
 ):G:=h
theorem zrcf {G:Prop}(h:G:=by
  rw[hr] at HC HS;simp only[bind_ok] at HS;clear hr;go_wp2_with fail;refine cm HC.out ?_;intro e w1 hp;obtain⟨⟨v1,rfl,rfl⟩,hrd,ha⟩:=hp;clear HC;have HA1:=hide (HA0.out.next ha);have HR1:=hide hrd
  clear hrd ha HA0 HR0;exact zrcfX
 ):G:=h
theorem zrcg {G:Prop}(h:G:=by
  intro wc pc hY;have HHY:=hide hY;clear hY;obtain⟨gc3,gcf,gcl⟩:=HHY.out.op.cell;have hsz:=HHY.out.ap.size
  have HOn:Hid (Open w.heap.size ((wc.alloc (.cells #[nPtr pc] 22)).alloc (nodeObj 14 noText 0 (.slice (some ⟨wc.heap.size,0,none⟩) 1 1))) _ w.heap.size _ _):=(HHY.out.op.alloc (.cells #[nPtr pc] 22)).alloc (nodeObj 14 noText 0 (.slice (some ⟨wc.heap.size,0,none⟩) 1 1))
  refine wr1 12 fun K hK=>?_
  refine step_append_lies _ rfl _ _ 46 rfl w.heap.size 22 i0 (.pointer none) 1 8 Tryz.underlying46 hi0 hz0 hz1 hz2 rfl (by decide) _ _ _ rfl (HOn.out.row.alloc _) ⟨wc.heap.size+2,0,none⟩ 1 1 [nPtr (wc.heap.size+1)] rfl rfl (one_cells ((wc.alloc (.cells #[nPtr pc] 22)).alloc (nodeObj 14 noText 0 (.slice (some ⟨wc.heap.size,0,none⟩) 1 1))) (wc.heap.size+1) _ (by simp)) (one_one _) (by decide) (by simp[maxLen]) (by simp) (by simp;omega) (wc.heap.size+3) (by simp) ?_
  intro g cap w3 hown3 hgr3 hg3 _;refine hK _ _ ?_;clear hK K
  have HBW:∀ v,Hid (Below w.heap.size wc (w3.setCell ⟨w.heap.size,3,none⟩ v)):=fun v=>HHY.out.op.grows ((((Below.refl _ wc).alloc hsz _).alloc (by simp;omega) _).alloc (by simp;omega) _) (by simp;omega) hgr3
  exact zrcgX
 ):G:=h
theorem zrch {G:Prop}(h:G:=by
  go_simp;refine cm (HT.out _ HR.out) ?_;rintro e w1 ⟨rfl,hb⟩;obtain⟨hr1,hbw,p0⟩:=sf_one HR0.out hb;have HR1:=hide hr1;have HW:=hide hbw;have P0:=hide p0;clear hb hr1 hbw p0
  refine hK.out _ _ HR1.out (fun _=>?_);clear hK K
  refine wg 6 (.tuple #[.agg #[.string x.tx,.int .i64 x.kd,.int .i64 x.parts,.int .i64 x.str],.bool true]) rfl (Or.inl ⟨by kernel_rfl,fun W hW=>by have hh:=HL.out W hW;go_simp⟩) HR1.out ?_
  refine wh 7 (.tuple #[.agg #[.string x.tx,.int .i64 x.kd,.int .i64 x.parts,.int .i64 x.str],.bool true]) HR1.out ?_;refine wh 8 (.agg #[.string x.tx,.int .i64 x.kd,.int .i64 x.parts,.int .i64 x.str]) HR1.out ?_
  refine wh 9 (.bool true) HR1.out ?_;refine wq1 10 fun K hK=>?_;go_simp;refine hK.out _ _ (HR1.out.alloc O160) (fun _=>?_);clear hK K;refine wq1 11 fun K hK=>?_;go_simp
  obtain⟨W2,hW2⟩:∃ W2,W2=w1.alloc (.cells #[.string x.tx,.int .i64 x.kd,.int .i64 x.parts,.int .i64 x.str] 189):=⟨_,rfl⟩
  obtain⟨hr2,hb2,⟨q0,q1,q2,q3,qf,qlt⟩,⟨s0,s1,s2,s3,sf,slt⟩⟩:=w1_any (v0:=.string x.tx) (v1:=.int .i64 x.kd) (v2:=.int .i64 x.parts) (v3:=.int .i64 x.str) HR1.out P0.out HW.out hW2;exact zrchX
 ):G:=h
theorem zrci {G:Prop}(h:G:=by
  have HX:=hide (blockP_exprOk hK hr);have HC:=hide (block_any hF hN w3 d j3 _ rfl (by rw[hr];nofun) HR3.out)
  rw[hr] at HC HS;simp only[bind_ok] at HS;clear hr;go_wp2_with fail;refine cm HC.out ?_;intro e wb hp;obtain⟨⟨vb,rfl,hn⟩,hrd,ha⟩:=hp;clear HC;have HAb:=hide (HA3.out.next ha);have HRb:=hide hrd
  have HLb:=hide HLT.out;replace HNP:=hide (NAt.later (fun b hb _=>ha.block b hb.2 (by have h1:=unhide HLT;have h2:=hb.1;omega)) _ _ HNP.out)
  have HC:=hide (code_any w3.heap.size tb vb wb hn HX.out);clear hn hrd ha;go_wp2_with fail;refine cm HC.out ?_;rintro e wc ⟨rfl,hev,hbw⟩;clear HC;have HAc:=hide (HAb.out.trans ((Ap.of hbw).mono HA3.out.size))
  have HRc:=hide (HRb.out.ap hbw HR3.out.base.size);replace HNP:=hide (NAt.later (fun b hb _=>hbw.block b hb.2) _ _ HNP.out);obtain⟨pb,rfl,hnb⟩:=hev.nv
  have HNB:=hide (NAt.mono (J:=fun b=>From w.heap.size b∧w3.heap.size≤b) (fun _ hb _=>⟨Nat.le_trans HA3.out.size hb,hb⟩) _ _ hnb);clear hev hbw hnb;exact zrciX
 ):G:=h
theorem zrcj {G:Prop}(h:G:=by
  refine wp_region_any (by kernel_rfl) ?_;change wpAny _ _ _ _ _ _ _ (World.drew _);refine wt 0 (nPtr p0) ?_;refine wt 1 (nPtr p0) ?_;refine wt 2 (nPtr p0) ?_;refine wt 3 (.pointer (some ⟨p0,3,none⟩)) ?_
  exact zrcjX
 ):G:=h
theorem zrck {G:Prop}(h:G:=by
  obtain⟨ps1,hps1⟩:∃ q:List (Value × Sc),q=ps:=⟨_,rfl⟩;have HRJ:Hid (RR (fun b=>I b∨(w.heap.size<b∧b<w1.heap.size)) w1 (.slice (some ⟨g,0,none⟩) ps.length cap) ps1):=by
   exact zbee
  have HL1:Hid (0<ps1.length∧ps1.length≤ps.length+1):=by rw[hps1];exact⟨hp0,by omega⟩
  exact zrckX
 ):G:=h
theorem zrcl {G:Prop}(h:G:=by
  intro wc pc hY;have HHY:=hide hY;clear hY;obtain⟨gc3,gcf,gcl⟩:=HHY.out.op.cell;have hsz:=HHY.out.ap.size
  have HOn:Hid (Open w.heap.size ((wc.alloc (.cells #[nPtr pc] 22)).alloc (nodeObj 14 noText 0 (.slice (some ⟨wc.heap.size,0,none⟩) 1 1))) _ w.heap.size _ _):=(HHY.out.op.alloc (.cells #[nPtr pc] 22)).alloc (nodeObj 14 noText 0 (.slice (some ⟨wc.heap.size,0,none⟩) 1 1))
  refine wr1 12 fun K hK=>?_
  refine step_append_lies _ rfl _ _ 46 rfl w.heap.size 22 i0 (.pointer none) 1 8 Tryz.underlying46 hi0 hz0 hz1 hz2 rfl (by decide) _ _ _ rfl (HOn.out.row.alloc _) ⟨wc.heap.size+2,0,none⟩ 1 1 [nPtr (wc.heap.size+1)] rfl rfl (one_cells ((wc.alloc (.cells #[nPtr pc] 22)).alloc (nodeObj 14 noText 0 (.slice (some ⟨wc.heap.size,0,none⟩) 1 1))) (wc.heap.size+1) _ (by simp)) (one_one _) (by decide) (by simp[maxLen]) (by simp) (by simp;omega) (wc.heap.size+3) (by simp) ?_
  intro g cap w3 hown3 hgr3 hg3 _;refine hK _ _ ?_;clear hK K;exact zrclX
 ):G:=h
theorem zrcm {G:Prop}(h:G:=by
  obtain⟨k,rfl⟩:∃ k,gk=k+1:=by
   exact zbed
  obtain⟨q,rfl,hn⟩:=hnv;have HN:=hide hn;have HPS:=hide hps;have HAP:=hide hap;have h0:=hps.c0;have h1:=hps.c1;have f1:=hps.fz 1;obtain⟨k0,k1,k2,k3⟩:=hps.toks
  have hlt:(j:Int)<(c.l.length:Int):=by have:=hps.lt;omega
  have hl3:=hps.base.len;have hR:=hps.rlt;have hT:=hps.base.tlt;have hR1:c.P<wr.heap.size+1:=by omega
  have hT1:c.tb<wr.heap.size+1:=by omega
  have hgb:=(hap.block g (lt_of_heap HK.out) HGN.out).trans HK.out;have HGB:=hide hgb;have hgl:=lt_of_heap hgb;have hg1:g<wr.heap.size+1:=by omega
  have kg:wr.cell? ⟨g,o,none⟩=some (.string s):=by rw[cell_of hgb];exact unhide HSO
  have HC1:=hide (rok_new hps);have hnx:(tkA c.l j).kd=5→j+1<c.l.length:=fun hk=>next_lt hps.base.ends hps.lt (by rw[hk];decide)
  have HNX:=hide hnx;unfold rpairLoop at hq;have HQ:=hide hq;clear hq hn hps hap hgb hnx;exact zrcmX
 ):G:=h
theorem zrcn {G:Prop}(h:G:=by
  intro wc pc hY;have HHY:=hide hY;clear hY;obtain⟨gc3,gcf,gcl⟩:=HHY.out.op.cell;have hsz:=HHY.out.ap.size
  have HOn:Hid (Open w.heap.size ((wc.alloc (.cells #[nPtr pc] 22)).alloc (nodeObj 13 s 0 (.slice (some ⟨wc.heap.size,0,none⟩) 1 1))) _ w.heap.size _ _):=(HHY.out.op.alloc (.cells #[nPtr pc] 22)).alloc (nodeObj 13 s 0 (.slice (some ⟨wc.heap.size,0,none⟩) 1 1))
  refine wr1 13 fun K hK=>?_
  refine step_append_lies _ rfl _ _ 46 rfl w.heap.size 22 i0 (.pointer none) 1 8 Tryz.underlying46 hi0 hz0 hz1 hz2 rfl (by decide) _ _ _ rfl (HOn.out.row.alloc _) ⟨wc.heap.size+2,0,none⟩ 1 1 [nPtr (wc.heap.size+1)] rfl rfl (one_cells ((wc.alloc (.cells #[nPtr pc] 22)).alloc (nodeObj 13 s 0 (.slice (some ⟨wc.heap.size,0,none⟩) 1 1))) (wc.heap.size+1) _ (by simp)) (one_one _) (by decide) (by simp[maxLen]) (by simp) (by simp;omega) (wc.heap.size+3) (by simp) ?_
  intro g cap w3 hown3 hgr3 hg3 _;refine hK _ _ ?_;clear hK K;exact zrcnX
 ):G:=h
theorem zrco {G:Prop}(h:G:=by
  obtain⟨wA,hwA⟩:∃ wA,wA=(w.alloc (.cells #[.pointer oa,.bool true] 112)).alloc (.cells #[.pointer none,.bool false] 112):=⟨_,rfl⟩
  have hbA:Below w.heap.size w wA:=by rw[hwA];exact((Below.refl _ _).alloc (Nat.le_refl _) _).alloc (by simp) _
  have hsA:wA.heap.size=w.heap.size+2:=by rw[hwA];simp
  have hpA:wA.heap[w.heap.size]? = some (.cells #[.pointer oa,.bool true] 112 (0,0)):=by
   exact zbef
  have hrA:wA.heap[w.heap.size+1]? = some (.cells #[.pointer none,.bool false] 112 (0,0)):=by
   exact zbfc
  obtain⟨w1,hw1⟩:∃ w1,w1=wA.drew:=⟨_,rfl⟩;have hb1:Below w.heap.size w w1:=by rw[hw1];exact hbA.drew
  have hs1:w1.heap.size=w.heap.size+2:=by rw[hw1];exact hsA
  have hp1:w1.heap[w.heap.size]? = some (.cells #[.pointer oa,.bool true] 112 (0,0)):=by rw[hw1];exact hpA
  exact zrcoX
 ):G:=h
end Go.Proofs.YtoimgcjbcbhclaaGreatDoor
