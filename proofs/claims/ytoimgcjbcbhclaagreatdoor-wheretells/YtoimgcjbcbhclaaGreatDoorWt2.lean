/-
  Parts of proofs that stand more than once.
-/
import Derived.Test.YtoimgcjbcbhclaaGreatDoorWt1
set_option maxRecDepth 100000
set_option maxHeartbeats 16000000
namespace Go.Proofs.YtoimgcjbcbhclaaGreatDoor
open Go.RowKit
theorem zrcp {G:Prop}(h:G:=by
  clear hwn hpe2;have HC:=hide (take_not c tCatch wn i1 d HRn.out hc);go_wp2_with fail;refine cm HC.out ?_;rintro e wc ⟨rfl,hb⟩;clear HC;have HRc:=hide (HRn.out.later hb)
  have HAc:=hide (HAn.out.next (Ap.of hb));replace HOP:=hide (Open.later HOP.out (Ap.of hb) HLT.out);clear hb;have HC:=hide (take_yes c tFinally wc i1 d HRc.out hf (by decide));go_wp2_with fail
  refine cm HC.out ?_;rintro e wf ⟨rfl,hrd,ha⟩;clear HC;have HRf:=hide hrd;have HAf:=hide (HAc.out.next ha);replace HOP:=hide (Open.later HOP.out (ha) HLT.out);clear hrd ha
  have HCF:=hide (block_any hF hN wf.drew d (i1+1) _ rfl (by rw[hb2];nofun) HRf.out.drew)
  rw[hb2] at HCF;obtain⟨hc3,hcf,hcl⟩:=HOP.out.cell;obtain⟨ua,uc,hue⟩:=HOP.out.shape;subst hue;go_wp2_with fail;exact zrcpX
 ):G:=h
theorem zrcq {G:Prop}(h:G:=by
  refine wp_region_any (by kernel_rfl) ?_;change wpAny _ _ _ _ _ _ _ (World.drew _);refine wt 0 (nPtr w.heap.size) ?_;refine wt 1 (nPtr w.heap.size) ?_;refine wt 2 (nPtr w.heap.size) ?_
  refine wt 3 (.pointer (some ⟨w.heap.size,3,none⟩)) ?_;exact zrcqX
 ):G:=h
theorem zrcr {G:Prop}(h:G:=by
  have hst:=pastN_stop lodB s q hqs (by unfold lodB;rw[hl,hd];rfl)
  have hqq:e=q:=by omega
  subst hqq;have HL1:=hide hl;have HD1:=hide hd;clear hl hd hst hqe;go_wp2_with fail;refine(isLetter_any _ _).mono ?_;rw[HL1.out];rintro e2 w2 ⟨rfl,rfl⟩;go_wp2_with fail;refine(isDigit_any _ _).mono ?_
  rw[HD1.out];rintro e2 w2 ⟨rfl,rfl⟩;exact zrcrX
 ):G:=h
theorem zrcs {G:Prop}(h:G:=by
  have hszR:(RW w).heap.size=w.heap.size+2:=by simp
  have hsz2:=HB2.out.size;have hR:=unhide HCR;have c0:w3.heap[w.heap.size]? = some (.cells #[.pointer none] 22 (0,0)):=by
   rw[ha.block _ (by omega) (by omega),HB2.out.block _ (by omega),Below.heap_alloc _ _ _ (by simp)];exact heap_new _ _
  have c1:w3.heap[w.heap.size+1]? = some (.cells #[.nilIface] 28 (0,0)):=by
   exact zbgc
  have d0:w3.cell? ⟨w.heap.size,0,none⟩=some (.pointer none):=by rw[cell_of c0];rfl
  have d0f:=frozen_of c0;have d1:w3.cell? ⟨w.heap.size+1,0,none⟩=some .nilIface:=by rw[cell_of c1];rfl
  have d1f:=frozen_of c1;have HBW:Hid (Below w.heap.size w w3):=by
   exact zbez
  exact zrcsX
 ):G:=h
theorem zrct {G:Prop}(h:G:=by
  obtain⟨va,vc,rfl⟩:=srow_form hr5;refine hK.out _ _ (fun _=>hS5) ?_;have hne5:=own_lt hr5;clear hK K HPUT hr5
  have hbx5:w5.heap[w.heap.size]? = some (.cells #[.slice (some ⟨g,0,none⟩) ps.length cap] 114 (0,0)):=by rw[hS5.block _ (lt_of_heap HBX.out)];exact unhide HBX
  have y0:w5.cell? ⟨w.heap.size,0,none⟩=some (.slice (some ⟨g,0,none⟩) ps.length cap):=by rw[cell_of hbx5];rfl
  have yf:=frozen_of hbx5 0;have yl:=lt_of_heap hbx5;have HK5:=hide hS5;have HX5:=hide hbx5;have HL5:=hide hL5;have HR5:=hide hr5';have HN5:=hide hne5;have HB5:=hide hb5;have HS1':=hide hS1
  clear hbx5 hS5 hL5 hr5' hne5 hb5 hL3 hS1;exact zrctX
 ):G:=h
theorem zrcu {G:Prop}(h:G:=by
  go_simp;have HR':=hide ((HRq.out.alloc O160).drew);refine hK.out _ _ (unhide HR') (fun _=>?_);clear hK K;refine wq1 5 fun K hK=>?_;go_simp;refine cm (fixed_any c _ i d (unhide HR')) ?_;rintro e w1 ⟨rfl,hb⟩
  have HR1:=hide ((unhide HR').later hb);have HB1:=hide (HBq.out.trans ((((Below.refl wq.heap.size wq).alloc (Nat.le_refl _) O160).drew.trans (hb.mono (by simp))).mono HBq.out.size))
  have p1:w1.heap[wq.heap.size]? = some O160:=(hb.block _ (by simp)).trans (heap_new wq O160);obtain⟨r0,r1,r2,r3,rf,rlt⟩:=c160 p1;have P1:=hide p1;clear hb p1;refine hK.out _ _ HR1.out (fun _=>?_)
  clear hK K;exact zrcuX
 ):G:=h
theorem zrcv {G:Prop}(h:G:=by
  clear hr HQ;go_wp2_with fail;refine cm HC.out ?_;rintro e wh ⟨⟨v,rfl,q,rfl,hn⟩,hp1,ha⟩;have HNB:=hide ((ha.block _ (lt_of_heap HK2.out.nd) (by have:=unhide HLT;omega)).trans HK2.out.nd)
  have HA0:=hide (HK2.out.ap.next ha);have HP0:=hide hp1;have HN0:=hide hn;have HZ0:=hide ha.size;exact zrcvX
 ):G:=h
theorem zrcw {G:Prop}(h:G:=by
  rw[hr] at HC HS;simp only[bind_ok] at HS;clear hr;go_wp2_with fail;refine cm HC.out ?_;intro e w3 hp;obtain⟨⟨v3,rfl,p3,rfl,hn3⟩,hrd,ha⟩:=hp;clear HC;have HA3:=hide (HA2.out.next ha)
  have HR3:=hide hrd;have HN3:=hide (nat_mono hn3 HA2.out.size);clear hn3;clear hrd ha HA2 HR2;exact zrcwX
 ):G:=h
theorem zrcx {G:Prop}(h:G:=by
  refine wp_region_any (by kernel_rfl) ?_;change wpAny _ _ _ _ _ _ _ (World.drew _);refine wt 0 (nPtr w.heap.size) ?_;refine wt 1 (nPtr w.heap.size) ?_;refine wt 2 (nPtr w.heap.size) ?_
  refine wt 3 (.pointer (some ⟨w.heap.size,3,none⟩)) ?_;refine wt 5 (pPtr c) ?_;refine wt 6 (.int .i64 (d:Int)) ?_;exact zrcxX
 ):G:=h
theorem zrcy {G:Prop}(h:G:=by
  go_simp;refine hK.out _ _ (fun e=>by cases e) ?_;clear hK K;refine udone (by kernel_rfl) ?_ _;obtain⟨wz,hwz⟩:∃ wz,wz=w5.setCell ⟨w.heap.size,0,none⟩ (.slice va (ps.length+1) vc):=⟨_,rfl⟩
  have hset:∀ b,b≠w.heap.size→wz.heap[b]? = w5.heap[b]?:=fun b hb=>by rw[hwz];exact ne_set hb _
  have hbz:Below w.heap.size w wz:=by
   rw[hwz];exact zbei
  have hboxz:wz.heap[w.heap.size]? = some (.cells #[.slice va (ps.length+1) vc] 114 (0,0)):=by rw[hwz,heap_set HX5.out];rfl
  have hxl:w.heap.size<w1.heap.size:=lt_of_heap HBX.out;exact zrcyX
 ):G:=h
theorem zrcz {G:Prop}(h:G:=by
  clear h hk
  generalize tkA c.l i=t at *
  go_enter Tryz.func297,Tryz.ntmps297;go_wp2_with fail;refine cm HC1.out ?_;rintro e w1 ⟨rfl,rfl⟩;clear HC1;go_wp2_with fail
  go_region
  go_wp2_with fail;go_ret;have hn:((i:Int)+1)=(((i+1:Nat)):Int):=by omega
  rw[hn];exact zrczX
 ):G:=h
theorem zrda {G:Prop}(h:G:=by
  go_wp2_with fail;refine cm HC.out ?_;intro e w4 hp;obtain⟨⟨v4,rfl,p4,rfl,hn4⟩,hrd,ha⟩:=hp;have HA4:=hide (HA3.out.next ha);have HR4:=hide hrd
  have HN4:=hide (apart_own HK3.out HA3.out.size ha HLT.out hn4);have HK4:=hide (KV.later HK3.out ha HLT.out);exact zrdaX
 ):G:=h
theorem zrdb {G:Prop}(h:G:=by
  have HEE:=hide hee;have HLET:=hide hlet;have HW:=hide hw;clear hee hlet hw HE hrd;have hex2:s.size≤e:=by omega
  clear hex
  conv=>arg 2;whnf
  unfold fr Q6;go_wp2_with fail;refine(isLetter_any _ _).mono ?_;rw[HLET.out];rintro e1 w1 ⟨rfl,rfl⟩;go_wp2_with fail;exact zrdbX
 ):G:=h
theorem zrdc {G:Prop}(h:G:=by
  have hnw:nb<w.heap.size:=hnl;replace k3:=hkeep k3 (by omega);replace ke:=hkeep ke (by omega);replace ky:=hkeep ky (by omega);replace HTJ:=hide (hkeep HTJ.out (by omega))
  replace HRB:Hid (wj.cell? ⟨w.heap.size,0,none⟩=some (.slice va (ps.length+1) vc)):=by show _=_;rw[cell_of hbxj];rfl
  replace HBX:=hide hbxj;have hkp2:=cell_lt k3;have hkg2:=cell_lt ke;have hky2:=cell_lt ky;rw[←hwj]
  clear hwj hset hszj hkeep hbxj hps1 hwe1 hw5s y0 yf yl HK5 HX5 HL5 HR5 HS1' HRR HB1 HK0 HK1 HT1 htx2 hs1 hxl;go_simp;exact zrdcX
 ):G:=h
theorem zrdd {G:Prop}(h:G:=by
  obtain⟨g,cap,hv,hg,_,hc⟩:=srow_cell HR.out k hlt;simp only[Value.slice.injEq] at hv;obtain⟨rfl,_,rfl⟩:=hv;have hki:(k:Int)<(l.length:Int):=by omega
  obtain⟨x,hx⟩:∃ x,x=l[k]:=⟨_,rfl⟩;rw[←hx] at hc;have HX:=hide hx;exact zrddX
 ):G:=h
theorem zrde {G:Prop}(h:G:=by
  have HR0:=hide h;have HB0:=hide (Below.refl w.heap.size w);have b1:((tkA c.l i).kd==1)=false:=beq_eq_false_iff_ne.2 h1;have b3:((tkA c.l i).kd==3)=false:=beq_eq_false_iff_ne.2 h3
  have b4:((tkA c.l i).kd==4)=false:=beq_eq_false_iff_ne.2 h4;exact zrdeX
 ):G:=h
theorem zrdf {G:Prop}(h:G:=by
  obtain⟨wd,hwd⟩:∃ wd,wd=w1.drew:=⟨_,rfl⟩;rw[←hwd] at hS0 ⊢;clear hwd;refine uh 0 (.func (.func 71) #[] #[.pointer (some ⟨w.heap.size,0,none⟩)]) hS0 ?_
  refine uc 1 (.map (some mb)) rfl (Or.inl ⟨by kernel_rfl,fun X hX=>by have h0:=keepC hX HT3.out;go_simp⟩) hS0 ?_
  refine uh 2 (nPtr p) hS0 ?_;refine uc 3 (.int .i64 (pre.length:Int)) rfl (Or.inl ⟨by kernel_rfl,fun X hX=>by have h0:=unhide HNUM X (HB1.out.trans (hX.mono HB1.out.size));go_simp⟩) hS0 ?_
  refine uh 4 (nPtr p) hS0 ?_;exact zrdfX
 ):G:=h
theorem zrdg {G:Prop}(h:G:=by
  clear hr;go_wp2_with fail;refine cm HC.out ?_;intro e w1 hp;obtain⟨⟨v1,rfl,p1,rfl,hn1⟩,hrd,ha⟩:=hp;clear HC;have HA1:=hide (HA0.out.next ha);have HR1:=hide hrd
  have HN1:=hide (nat_mono hn1 HA0.out.size);clear hn1;clear hrd ha HA0 HR0;exact zrdgX
 ):G:=h
theorem zrdh {G:Prop}(h:G:=by
  obtain⟨c0,c1,c2,c3,cf⟩:=node_cells nb;have cf0:=cf 0;have cf3:=cf 3;have hnl:=lt_of_heap nb;clear nb;go_wp2_with fail;refine cm HC.out ?_;rintro e wx ⟨rfl,hb⟩;have HK1:=hide (HK0.out.below hb)
  clear hb HC c0 c1 c2 c3 cf cf0 cf3 hnl;have x1:=HK1.out.ps.c1;have xf:=HK1.out.ps.fz 1;have hR:=HK1.out.ps.rlt;have hPN:c.P<w.heap.size:=unhide HLT;have nb:=HK1.out.nd
  obtain⟨c0,c1,c2,c3,cf⟩:=node_cells nb;have cf0:=cf 0;have cf3:=cf 3;have hnl:=lt_of_heap nb;clear nb;exact zrdhX
 ):G:=h
theorem zrdi {G:Prop}(h:G:=by
  have HKE:=hide (unhide HEND0 wz _ _ _ rfl hbz hboxz hrz hnz);have k3:wz.cell? ⟨p,3,none⟩=some (.slice ka es.length kc):=by
   rw[World.cell?_of_block (w:=w5) (a:=⟨p,3,none⟩) (hset p (by omega))];exact keepC HK5.out HK3.out
  have hpz:=cell_lt k3;rw[←hwz];clear hwz hset hbz hboxz hrz hnz y0 yf yl HK5 HX5 HL5 HR5 HN5 HB5 HS1' HEND0 HRR;go_simp;go_wp2_with fail;obtain⟨HKL0,HEND1⟩:=unhide HKE;have HKL:=hide HKL0
  have HEND:=hide HEND1;clear HKE HKL0 HEND1;exact zrdiX
 ):G:=h
theorem zrdj {G:Prop}(h:G:=by
  have HLO:=hide HRq.out.base.size;go_wp2_with fail;refine wp_region_held (S:=fun W=>Rdr c W i d) (by kernel_rfl) ?_;change wpAnyH _ _ _ _ _ _ _ _ (World.drew _);refine wh 0 (rPtr c) HRq.out.drew ?_
  refine wh 1 (rPtr c) HRq.out.drew ?_;refine wh 2 (.pointer (some ⟨c.R,3,none⟩)) HRq.out.drew ?_
  refine wg 3 (.map (some c.mS)) rfl (Or.inl ⟨by kernel_rfl,fun W hW=>by have hh:=Rdr.c3 hW;go_simp⟩) HRq.out.drew ?_
  refine wh 4 (rPtr c) HRq.out.drew ?_;exact zrdjX
 ):G:=h
theorem zrdk {G:Prop}(h:G:=by
  have HEE:=hide hee;have HLET:=hide hlet;have HW:=hide hw;clear hee hlet hw HE hrd
  conv=>arg 2;whnf
  unfold fr Q6;go_wp2_with fail;refine(isLetter_any _ _).mono ?_;rw[HLET.out];rintro e1 w1 ⟨rfl,rfl⟩;go_wp2_with fail;exact zrdkX
 ):G:=h
theorem zrdl {G:Prop}(h:G:=by
  clear hr;go_wp2_with fail;refine wp_region_held (S:=fun W=>W.heap[ws.heap.size]? = some (.cells #[.string x.tx,.int .i64 x.kd,.int .i64 x.parts,.int .i64 x.str] 189)) (by kernel_rfl) ?_
  change wpAnyH _ _ _ _ _ _ _ _ (World.drew _);refine wh 0 (.pointer (some ⟨ws.heap.size,1,none⟩)) HX3.out ?_
  refine wg 1 (.int .i64 x.kd) rfl (Or.inl ⟨by kernel_rfl,fun W hW=>by obtain⟨_,kk,_,_,_,_⟩:=c160 hW;go_simp⟩) HX3.out ?_
  exact zrdlX
 ):G:=h
theorem zrdm {G:Prop}(h:G:=by
  rw[hr] at HC HS;simp only[bind_ok] at HS;clear hr;go_wp2_with fail;refine cm HC.out ?_;intro e w2 hp;obtain⟨⟨v2,rfl,rfl⟩,hrd,ha⟩:=hp;clear HC;have HA2:=hide (HA1.out.next ha);have HR2:=hide hrd
  exact zrdmX
 ):G:=h
theorem zrdn {G:Prop}(h:G:=by
  rw[hr] at HC HS;simp only[bind_ok] at HS;clear hr;go_wp2_with fail;refine cm HC.out ?_;intro e w1 hp;obtain⟨⟨v1,rfl,hn1⟩,hrd,ha⟩:=hp;clear HC;have HA1:=hide (HA0.out.next ha);have HR1:=hide hrd
  exact zrdnX
 ):G:=h
theorem zrdo {G:Prop}(h:G:=by
  go_wp2_with fail;refine wp_region_held (S:=fun W=>W.heap[ws.heap.size]? = some (.cells #[.string x.tx,.int .i64 x.kd,.int .i64 x.parts,.int .i64 x.str] 189)) (by kernel_rfl) ?_
  change wpAnyH _ _ _ _ _ _ _ _ (World.drew _);refine wh 0 (.pointer (some ⟨ws.heap.size,1,none⟩)) HX3.out ?_
  refine wg 1 (.int .i64 x.kd) rfl (Or.inl ⟨by kernel_rfl,fun W hW=>by obtain⟨_,kk,_,_,_,_⟩:=c160 hW;go_simp⟩) HX3.out ?_
  exact zrdoX
 ):G:=h
theorem zrdp {G:Prop}(h:G:=by
  obtain⟨w1,hw1⟩:∃ w1,w1=w.alloc (.cells #[.slice (some ⟨g,0,none⟩) ps.length cap] 114):=⟨_,rfl⟩;have hb1:Below w.heap.size w w1:=by rw[hw1];exact(Below.refl _ _).alloc (Nat.le_refl _) _
  exact zrdpX
 ):G:=h
theorem zrdq {G:Prop}(h:G:=by
  go_enter Tryz.func176,Tryz.ntmps176;go_wp2_with fail;refine wp_region_held (S:=fun W=>Rdr c W i d) (by kernel_rfl) ?_;change wpAnyH _ _ _ _ _ _ _ _ (World.drew _);refine wh 0 (rPtr c) HR0.out.drew ?_
  refine wh 1 (rPtr c) HR0.out.drew ?_;refine wh 2 (.pointer (some ⟨c.R,4,none⟩)) HR0.out.drew ?_
  refine wg 3 (.map (some c.mT)) rfl (Or.inl ⟨by kernel_rfl,fun W hW=>by have hh:=Rdr.c4 hW;go_simp⟩) HR0.out.drew ?_
  exact zrdqX
 ):G:=h
theorem zrdr {G:Prop}(h:G:=by
  obtain⟨ps,hown,hk4,hkt⟩:=unhide HN4;have hlen:=NAts.length _ _ hk4;have hOB:=own_lt hown;rw[hlen] at hown;have HOWN:=hide hown;have HLEN:=hide hlen;have HKK:=hide hkt;have hsz:=HA4.out.size
  exact zrdrX
 ):G:=h
theorem zrds {G:Prop}(h:G:=by
  clear hx;go_wp2_with fail;refine cm HC3.out ?_;rintro e w6 ⟨rfl,hp6,ha6⟩;replace HOP:=hide (HOP.out.stay ha6 HLT.out);replace HA:=hide (HA.out.next ha6);replace HP:=hide hp6;clear hp6 ha6 HC3;exact zrdsX
 ):G:=h
theorem zrdt {G:Prop}(h:G:=by
  rw[←hwd];clear hwd;refine ug 0 (plV2 (.pointer oa) sb) rfl (Or.inl ⟨by kernel_rfl,fun X hX=>by have h0:=keepC hX HX0.out;have h1:=keepC hX HX1.out;go_simp⟩) hS0 ?_
  refine uh 1 (sPtr tb) hS0 ?_;exact zrdtX
 ):G:=h
theorem zrdu {G:Prop}(h:G:=by
  have HR0:=hide h;have HR:=hide ((h.alloc O160).drew);have HR':=hide (((h.alloc O160).alloc O160).drew)
  have HL:Hid (∀ W:World,Rdr c W i d→(Instr.lookup 199 (.map (some c.mS)) (.string s) true).run Tryz.prog W=.ok (.tuple #[.agg #[.string x.tx,.int .i64 x.kd,.int .i64 x.parts,.int .i64 x.str],.bool true]) W):=fun W hW=>by
   have:=look_signs c s W hW.base.signs;rw[ho] at this;exact this
  exact zrduX
 ):G:=h
theorem zrdv {G:Prop}(h:G:=by
  rw[hr] at HQ;have hq:r=.bad er pl:=unhide HQ;subst hq;clear hr HQ;go_wp2_with fail;refine cm HC.out ?_;rintro e wv ⟨⟨v,rfl,q,rfl⟩,⟨j,hp1⟩,he,ha⟩
  have nb:=(ha.block _ (lt_of_heap HS12.out.nd) (by have:=unhide HLT;omega)).trans HS12.out.nd
  obtain⟨c0,c1,c2,c3,cf⟩:=node_cells nb;have cf0:=cf 0;have cf3:=cf 3;have hnl:=lt_of_heap nb;have hA:=HS12.out.ap.next ha;exact zrdvX
 ):G:=h
theorem zrdw {G:Prop}(h:G:=by
  go_wp2_with fail;refine cm HC.out ?_;rintro e w3 ⟨rfl,hb3⟩;have HA3:=hide (HA2.out.next (Ap.of hb3));have HR3:=hide (HR2.out.later hb3);have HK3:=hide (KV.later HK2.out (Ap.of hb3) HLT.out);exact zrdwX
 ):G:=h
theorem zrdx {G:Prop}(h:G:=by
  have t1:(((s[q].toNat:Nat):Int)==39)=true:=by rw[c1];rfl
  have t2:(((s[q].toNat:Nat):Int)==10)=false:=by rw[c1];rfl
  rw[strR_quote s q said hqs (by rw[hbt];exact c1)] at hqe
  exact zrdxX
 ):G:=h
theorem zrdy {G:Prop}(h:G:=by
  refine wh 7 (.tuple #[.agg #[.string ⟨#[]⟩,.int .i64 0,.int .i64 0,.int .i64 0],.bool false]) HR1.out ?_;refine wh 8 (.agg #[.string ⟨#[]⟩,.int .i64 0,.int .i64 0,.int .i64 0]) HR1.out ?_
  refine wh 9 (.bool false) HR1.out ?_;refine wq1 10 fun K hK=>?_;go_simp;refine hK.out _ _ (HR1.out.alloc O160) (fun _=>?_);clear hK K;refine wq1 11 fun K hK=>?_;go_simp;exact zrdyX
 ):G:=h
theorem zrdz {G:Prop}(h:G:=by
  have HQ2:=hide hq;clear hr HQ hq;go_wp2_with fail;refine cm HC.out ?_;rintro e wv ⟨⟨v,rfl,q,rfl,hn⟩,hp1,ha⟩;have nb:=(ha.block _ (lt_of_heap HS12.out.nd) (by have:=unhide HLT;omega)).trans HS12.out.nd
  obtain⟨c0,c1,c2,c3,cf⟩:=node_cells nb;have cf0:=cf 0;have cf3:=cf 3;have hnl:=lt_of_heap nb;have hA:=HS12.out.ap.next ha;exact zrdzX
 ):G:=h
theorem zrea {G:Prop}(h:G:=by
  have hmf:=mf_run;have HN:=hide HN;have HP:=hide HP
  go_enter_defers Tryz.func43,Tryz.ntmps43
  go_wp2_with fail;refine cm HN.out ?_;rintro e w2 ⟨c,rfl,hcl,hcR,hrd,hb2⟩;have HC:=hide (HP.out c w2 hcl hrd);have HB2:=hide hb2;have HCR:=hide hcR;clear hcl hcR hrd hb2;go_wp2_with fail
  refine cm HC.out ?_;intro e w3 hp;exact zreaX
 ):G:=h
theorem zreb {G:Prop}(h:G:=by
  obtain⟨hd,hhd⟩:∃ hd,hd=hdKind (tkA c.l i).tx:=⟨_,rfl⟩;rw[←hhd] at HS;have HC:=hide (kind_any c w i d HR0.out HKD.out);rw[←hhd] at HC;clear hhd;go_wp2_with fail;refine cm HC.out ?_
  rintro e wk ⟨rfl,hrk,hak⟩;clear HC;have HRk:=hide hrk;have HAk:=hide (HA0.out.next hak);clear hrk hak HR0 HA0;exact zrebX
 ):G:=h
theorem zrec {G:Prop}(h:G:=by
  have HC3:=hide (rskip_no c _ j tCatch (by decide) hx HP.out);clear hx;go_wp2_with fail;refine cm HC3.out ?_;rintro e wx ⟨rfl,hb⟩;replace HOP:=hide (HOP.out.stay (Ap.of hb) HLT.out)
  replace HA:=hide (HA.out.next (Ap.of hb));replace HP:=hide (HP.out.later hb);clear hb HC3;clear c0 c1 c2 c3 cf cf3 hnl;have hx:=hf0;exact zrecX
 ):G:=h
theorem zred {G:Prop}(h:G:=by
  have HK3:Hid (w1.cell? ⟨p,3,none⟩=some (.slice ka es.length kc)):=keepC hb1 c3
  have HRB:Hid (w1.cell? ⟨w.heap.size,0,none⟩=some (.slice (some ⟨g,0,none⟩) ps.length cap)):=by show _=_;rw[cell_of hbx];rfl
  clear hw1 hb1 hbx c0 cn c3;have hS0:Below w1.heap.size w1 w1.drew:=(Below.refl _ _).drew;exact zredX
 ):G:=h
theorem zree {G:Prop}(h:G:=by
  have n4:¬ fx c.l i=tWhile:=by rw[hf];decide
  have n5:¬ fx c.l i=tWith:=by rw[hf];decide
  have n6:¬ fx c.l i=tTry:=by rw[hf];decide
  have n7:¬ fx c.l i=tVar:=by rw[hf];decide
  have n8:¬ fx c.l i=tLet:=by rw[hf];decide
  have n9:¬ fx c.l i=tConst:=by rw[hf];decide
  exact zreeX
 ):G:=h
theorem zref {G:Prop}(h:G:=by
  have waits:∀ {listed:Array Bool} {j:Nat} {oj:Oper},i ∈ Region.ready md ops listed→(∀ e ∈ oj.after,Region.binds md e=true→listed.getD e.on false=true)→∀ e ∈ oj.after,Region.binds md e=true→e.on≠i:=by
   intro listed j oj hr hall e he hb heq;exact zbdz
  intro n;exact zrefX
 ):G:=h
theorem zreg {G:Prop}(h:G:=by
  go_wp2_with fail;refine cm HC1.out ?_;rintro e w2 ⟨rfl,rfl⟩;clear HC1;go_wp2_with fail;refine cm HC2.out ?_;rintro e w3 ⟨rfl,hb3⟩;have HP3:=hide (HP1.out.later hb3);have HA3:=hide (HA1.out.next (Ap.of hb3))
  have HK3:=hide (KV.later HK1.out (Ap.of (R:=c.P) hb3) HLT.out);exact zregX
 ):G:=h
theorem zreh {G:Prop}(h:G:=by
  refine wh 7 (.tuple #[.agg #[.string ⟨#[]⟩,.int .i64 0,.int .i64 0,.int .i64 0],.bool false]) HR1.out ?_;refine wh 8 (.agg #[.string ⟨#[]⟩,.int .i64 0,.int .i64 0,.int .i64 0]) HR1.out ?_
  refine wh 9 (.bool false) HR1.out ?_;refine wq1 11 fun K hK=>?_;go_simp;clear r0 r1 r2 r3 rf rlt;exact zrehX
 ):G:=h
theorem zrei {G:Prop}(h:G:=by
  clear HC hr HS;go_enter Tryz.func254,Tryz.ntmps254;go_wp2_with fail;refine cm HC'.out ?_;rintro e w1 ⟨⟨v,rfl,q,rfl,hn1⟩,hp1,ha1⟩;have HP1:=hide hp1;have HA1:=hide ha1
  have HN1:Hid (NV w.heap.size w1 t0 (nPtr q)):=⟨q,rfl,hn1⟩;clear hp1 ha1 hn1 HC';go_wp2_with fail;exact zreiX
 ):G:=h
theorem zrej {G:Prop}(h:G:=by
  have h2:=wpOp_putIf hoj (hfree j oj hoj hji hjun hnot) (fun cs c=>hsel i oi cs c hi) (fun cs c=>hsel j oj cs c hoj) hQ hy (H.2 j (ready_mono hj hji));refine wpOp_mono (fun a' w' h3=>?_) h2
  have hS':S w':=h3.2.1 (by rw[getD_set_ne false hjb,getD_set_ne false hib];exact hnb)
  exact zrejX
 ):G:=h
theorem zrek {G:Prop}(h:G:=by
  have HQ1:Hid (r=((mustP c.l tOpen (j+1)).bind fun _ i1=>(nameP c.l i1).bind fun s i2=>(mustP c.l tShut i2).bind fun _ i3=>(blockP c.l F d i3).bind fun b2 i4=>(finallyP c.l F d i4).bind fun f i5=>.ok (.mk 12 noText 0 (b :: .mk 13 s 0 [b2]::f)) i5)):=by
   exact zbcs
  exact zrekX
 ):G:=h
theorem zrel {G:Prop}(h:G:=by
  rintro e w2 ⟨y,rfl,hy,hb2⟩;have HY:=hide hy;have HB2:=hide hb2;clear hy hb2;go_wp2_with fail;refine(either_any x y _ _ _ (HX.out.later HB2.out) HY.out).mono ?_;rintro e w3 ⟨z,rfl,hz,hb3⟩
  have HZ:=hide hz;have HB3:=hide hb3;clear hz hb3;go_wp2_with fail;go_ret;exact zrelX
 ):G:=h
theorem zrqa.zrdX {G:Prop}(h:G:=by
  exact zbac
 ):G:=h
theorem zrqa.zrbjX {G:Prop}(h:G:=by
  have s1:w1.cell? ⟨w.heap.size,1,none⟩=some (.bool true):=by rw[cell_of hp1];rfl
  exact zrd
 ):G:=h
theorem zrqa.zrcoX {G:Prop}(h:G:=by
  exact zrbj
 ):G:=h
theorem zrqa.zroX {G:Prop}(h:G:=by
  exact zrco
 ):G:=h
theorem zrqb.zrdX {G:Prop}(h:G:=by
  go_wp2_with fail;refine cm (unhide HST _ HB1.out) ?_;rintro e wx ⟨rfl,hwx⟩;rw[hwx];clear hwx wx;exact zbac
 ):G:=h
theorem zrqb.zrgX {G:Prop}(h:G:=by
  exact zrd
 ):G:=h
theorem zrqc.zrbcX {G:Prop}(h:G:=by
  exact Or.inl ⟨by decide,rfl⟩
 ):G:=h
theorem zrqc.zrccX {G:Prop}(h:G:=by
  exact zrbc
 ):G:=h
theorem zrqc.zrbmX {G:Prop}(h:G:=by
  exact zrcc
 ):G:=h
theorem zrqc.zrbuX {G:Prop}(h:G:=by
  refine ug 0 (plV2 (.pointer oa) false) rfl (Or.inl ⟨by kernel_rfl,fun X hX=>by have h0:=keepC hX HX0.out;have h1:=keepC hX HX1.out;go_simp⟩) hS0 ?_
  exact zrbm
 ):G:=h
theorem zrqc.zrdX {G:Prop}(h:G:=by
  go_wp2_with fail;refine cm (unhide HST _ HB1.out) ?_;rintro e wx ⟨rfl,hwx⟩;rw[hwx];clear hwx wx;go_wp2_with fail;obtain⟨w2,hw2⟩:∃ w2,w2=w1.setCell ⟨w.heap.size,1,none⟩ (.bool false):=⟨_,rfl⟩
  rw[←hw2];have hb2:Below w.heap.size w w2:=by rw[hw2];exact HB1.out.setCell (p:=⟨w.heap.size,1,none⟩) (Nat.le_refl _) _
  have hs2:w2.heap.size=w.heap.size+2:=by rw[hw2];simpa using unhide HS1
  have hp2:w2.heap[w.heap.size]? = some (.cells #[.pointer oa,.bool false] 112 (0,0)):=by rw[hw2,heap_set HP1.out];rfl
  have hr2:w2.heap[w.heap.size+1]? = some (.cells #[.pointer none,.bool false] 112 (0,0)):=by rw[hw2,ne_set (by omega)];exact unhide HR1
  have HB2:=hide hb2;have HS2:Hid (w.heap.size+2≤w2.heap.size):=by show _≤_;omega
  have HP2:=hide hp2;have HR2:=hide hr2;clear hw2 hb2 hs2 hp2 hr2 k0 k1 k3 s0 s1 sf hpl1 hql1 hwl1 HB1 HS1 HP1 HR1 HW1 HWA
  have HX0:Hid (w2.cell? ⟨w.heap.size,0,none⟩=some (.pointer oa)):=by show _=_;rw[cell_of HP2.out];rfl
  exact zrbu
 ):G:=h
theorem zrqc.zrgX {G:Prop}(h:G:=by
  exact zrd
 ):G:=h
theorem zrqd.zrdX {G:Prop}(h:G:=by
  exact zbaa
 ):G:=h
theorem zrqd.zrbjX {G:Prop}(h:G:=by
  have s1:w1.cell? ⟨w.heap.size,1,none⟩=some (.bool true):=by rw[cell_of hp1];rfl
  exact zrd
 ):G:=h
theorem zrqd.zrcoX {G:Prop}(h:G:=by
  exact zrbj
 ):G:=h
theorem zrqd.zroX {G:Prop}(h:G:=by
  exact zrco
 ):G:=h
theorem zrqe.zrdX {G:Prop}(h:G:=by
  go_wp2_with fail;refine cm (unhide HST _ HB1.out) ?_;rintro e wx ⟨rfl,hwx⟩;rw[hwx];clear hwx wx;exact zbaa
 ):G:=h
theorem zrqe.zrgX {G:Prop}(h:G:=by
  exact zrd
 ):G:=h
theorem zrqf.zrbcX {G:Prop}(h:G:=by
  exact zcas
 ):G:=h
theorem zrqf.zrccX {G:Prop}(h:G:=by
  exact zrbc
 ):G:=h
theorem zrqf.zrbmX {G:Prop}(h:G:=by
  exact zrcc
 ):G:=h
theorem zrqf.zrbuX {G:Prop}(h:G:=by
  refine ug 0 (plV2 (sPtr b2) false) rfl (Or.inl ⟨by kernel_rfl,fun X hX=>by have h0:=keepC hX HX0.out;have h1:=keepC hX HX1.out;go_simp⟩) hS0 ?_
  exact zrbm
 ):G:=h
theorem zrqf.zrdX {G:Prop}(h:G:=by
  go_wp2_with fail;refine cm (unhide HST _ HB1.out) ?_;rintro e wx ⟨rfl,hwx⟩;rw[hwx];clear hwx wx;go_wp2_with fail;obtain⟨wl,hw2⟩:∃ wl,wl=w1.setCell ⟨w.heap.size,1,none⟩ (.bool false):=⟨_,rfl⟩
  rw[←hw2];have hb2:Below w.heap.size w wl:=by rw[hw2];exact HB1.out.setCell (p:=⟨w.heap.size,1,none⟩) (Nat.le_refl _) _
  have hs2:wl.heap.size=w.heap.size+2:=by rw[hw2];simpa using unhide HS1
  have hp2:wl.heap[w.heap.size]? = some (.cells #[.pointer oa,.bool false] 112 (0,0)):=by rw[hw2,heap_set HP1.out];rfl
  have hr2:wl.heap[w.heap.size+1]? = some (.cells #[.pointer none,.bool false] 112 (0,0)):=by rw[hw2,ne_set (by omega)];exact unhide HR1
  have HBl:=hide hb2;have HSl:Hid (w.heap.size+2≤wl.heap.size):=by show _≤_;omega
  have HPl:=hide hp2;have HRl:=hide hr2;clear hw2 hb2 hs2 hp2 hr2 k0 k1 k3 s0 s1 sf hpl1 hql1 hwl1 HB1 HS1 HP1 HR1 HW1 HWA;have hs2:=unhide HSl
  have HX0:Hid (wl.cell? ⟨w.heap.size,0,none⟩=some (.pointer oa)):=by show _=_;rw[cell_of HPl.out];rfl
  have HX1:Hid (wl.cell? ⟨w.heap.size,1,none⟩=some (.bool false)):=by show _=_;rw[cell_of HPl.out];rfl
  have HT2:Hid (wl.cell? ⟨tb,0,none⟩=some (.map (some mb))):=keepC HBl.out HT0.out;have HC2:Hid (wl.cell? ⟨p,1,none⟩=some (.string tx)):=keepC HBl.out HC1.out
  have hS0:Below wl.heap.size wl wl.drew:=(Below.refl _ _).drew;refine wp_region_U 14 (fun X=>Below wl.heap.size wl X) (by kernel_rfl) ?_;obtain⟨wd,hwd⟩:∃ wd,wd=wl.drew:=⟨_,rfl⟩
  have hsd:wd.heap.size=wl.heap.size:=by rw[hwd];rfl
  rw[←hwd] at hS0 ⊢;have HSD:=hide hsd;clear hwd hsd;refine ug 0 (plV2 (.pointer oa) false) rfl (Or.inl ⟨by kernel_rfl,fun X hX=>by have h0:=keepC hX HX0.out;have h1:=keepC hX HX1.out;go_simp⟩) hS0 ?_
  refine uh 1 (sPtr tb) hS0 ?_;refine uh 2 (sPtr tb) hS0 ?_;refine uh 3 (.pointer (some ⟨tb,0,none⟩)) hS0 ?_
  refine ug 4 (.map (some mb)) rfl (Or.inl ⟨by kernel_rfl,fun X hX=>by have h0:=keepC hX HT2.out;go_simp⟩) hS0 ?_
  refine uh 5 (nPtr p) hS0 ?_;refine ug 6 (.int .i64 (no:Int)) rfl (Or.inl ⟨by kernel_rfl,fun X hX=>by have h0:=unhide HNUM X (HBl.out.trans (hX.mono HBl.out.size));go_simp⟩) hS0 ?_
  refine uh 7 (nPtr p) hS0 ?_;refine uh 8 (nPtr p) hS0 ?_;refine uh 9 (.pointer (some ⟨p,1,none⟩)) hS0 ?_
  refine ug 10 (.string tx) rfl (Or.inl ⟨by kernel_rfl,fun X hX=>by have h0:=keepC hX HC2.out;go_simp⟩) hS0 ?_
  refine uq1 11 fun K hK=>?_;go_simp;have hS3:Below wl.heap.size wl (wd.alloc (.cells #[.string tx] 9)):=hS0.alloc (by have:=unhide HSD;omega) _
  have HL3:Hid (SRow wl.heap.size (wd.alloc (.cells #[.string tx] 9)) (.slice (some ⟨wd.heap.size,0,none⟩) 1 1) [tx]):=⟨rfl,Or.inr ⟨wd.heap.size,1,#[.string tx],rfl,by have:=unhide HSD;omega,heap_new _ _,Nat.le_refl _,by decide,rfl,rfl⟩⟩
  refine hK.out _ _ (fun _=>hS3) ?_;clear hK K;obtain⟨w3,hw3⟩:∃ w3,w3=wd.alloc (.cells #[.string tx] 9):=⟨_,rfl⟩;have HD3:Hid (wd.heap.size<w3.heap.size):=by show _<_;rw[hw3];simp
  rw[←hw3] at hS3 HL3 ⊢;clear hw3 hS0;obtain⟨gl,hgl2⟩:∃ gl,gl=wd.heap.size:=⟨_,rfl⟩;have HGE:Hid (wl.heap.size≤gl):=by show _≤_;rw[hgl2];have:=unhide HSD;omega
  rw[←hgl2] at HL3 HD3 ⊢;clear hgl2 HSD;refine uh 12 (.agg #[.int .i64 (no:Int),.slice (some ⟨gl,0,none⟩) 1 1,.bool false,.pointer none]) hS3 ?_;refine uq1 13 fun K hK=>?_;go_simp
  refine cm (in_any oa false no (some ⟨gl,0,none⟩) 1 1 false none w3) ?_;rintro e w4 ⟨⟨rfl,hk4⟩,hb4⟩;have hS4:Below wl.heap.size wl w4:=hS3.trans (hb4.mono hS3.size);have hl4:=SRow.later HL3.out hb4
  obtain⟨b2,hb2e⟩:∃ b2,b2=w3.heap.size+1:=⟨_,rfl⟩;have hb2g:wl.heap.size≤b2:=by rw[hb2e];have:=hS3.size;omega
  have hb2l:b2<w4.heap.size:=by rw[hb2e];exact lt_of_heap hk4
  rw[←hb2e] at hk4 ⊢;have hgl4:gl<w4.heap.size:=Nat.lt_of_lt_of_le HD3.out hb4.size
  have hp4:w4.heap[w.heap.size]? = some (.cells #[.pointer oa,.bool false] 112 (0,0)):=by rw[hS4.block _ (by omega)];exact unhide HPl
  have hr4:w4.heap[w.heap.size+1]? = some (.cells #[.pointer none,.bool false] 112 (0,0)):=by rw[hS4.block _ (by omega)];exact unhide HRl
  have q0':w4.cell? ⟨w.heap.size,0,none⟩=some (.pointer oa):=by rw[cell_of hp4];rfl
  have q1':w4.cell? ⟨w.heap.size,1,none⟩=some (.bool false):=by rw[cell_of hp4];rfl
  have qf:=frozen_of hp4;have hrl:=lt_of_heap hp4;refine hK.out _ _ (fun _=>hS4) ?_;clear hK K hb2e;refine uq1 14 fun K hK=>?_;go_simp;refine hK.out _ _ (fun e=>by cases e) ?_;clear hK K
  refine udone (by kernel_rfl) ?_ _;go_simp;obtain⟨w2,hw2⟩:∃ w2,w2=(w4.setCell ⟨w.heap.size,0,none⟩ (sPtr b2)).setCell ⟨w.heap.size,1,none⟩ (.bool false):=⟨_,rfl⟩;rw[←hw2]
  have hset:∀ k,k≠w.heap.size→w2.heap[k]? = w4.heap[k]?:=fun k hk=>by rw[hw2,ne_set hk,ne_set hk]
  have hzs:w2.heap.size=w4.heap.size:=by rw[hw2];simp
  have hge:=unhide HGE;have HP2:Hid (w2.heap[w.heap.size]? = some (.cells #[sPtr b2,.bool false] 112 (0,0))):=by show _=_;rw[hw2,heap_set (heap_set hp4 _)];rfl
  have HR2:Hid (w2.heap[w.heap.size+1]? = some (.cells #[.pointer none,.bool false] 112 (0,0))):=(hset _ (by omega)).trans hr4;have HB2:Hid (Below w.heap.size w w2):=by
   exact zcbx
  have HS2:Hid (w.heap.size+2≤w2.heap.size):=by show _≤_;have:=hS4.size;omega
  have HLB:Hid (w2.heap[b2]? = some (scObj no (.slice (some ⟨gl,0,none⟩) 1 1) false (.pointer oa))):=(hset _ (by omega)).trans hk4
  have HLR:Hid (SRow w.heap.size w2 (.slice (some ⟨gl,0,none⟩) 1 1) [tx]):=srow_mono (owns_stay (I:=fun b=>wl.heap.size≤b) (fun b hb _=>hset b (by have h1:wl.heap.size≤b:=hb;omega)) (fun b hb=>(own_lt hl4 b hb).2) hl4) (by omega)
  have HB2L:Hid (w.heap.size≤b2):=by show _≤_;omega
  have HB2U:Hid (b2<w2.heap.size):=by show _<_;omega
  have HB2N:Hid (b2≠w.heap.size+1):=by show _≠_;omega
  have HGU:Hid (gl<w2.heap.size):=by show _<_;omega
  have HGN:Hid (gl≠w.heap.size+1):=by show _≠_;omega
  clear hw2 hset hzs hk4 hS4 hl4 hr4 hp4 q0' q1' qf hrl hb4 HX0 HX1 HT2 HC2 HBl HSl HPl HRl hs2 hge HL3 HD3 HGE hS3 hb2g hb2l hgl4;have k0:=keepC HB2.out HC0.out;have k3:=keepC HB2.out HE3.out
  have hql2:q0<w2.heap.size:=Nat.lt_of_lt_of_le hql HB2.out.size;go_wp2_with fail;clear k0 k3 hql2;have HX0:Hid (w2.cell? ⟨w.heap.size,0,none⟩=some (sPtr b2)):=by show _=_;rw[cell_of HP2.out];rfl
  exact zrbu
 ):G:=h
theorem zrqf.zrgX {G:Prop}(h:G:=by
  exact zrd
 ):G:=h
theorem zrqg.zrddX {G:Prop}(h:G:=by
  clear hx
  by_cases he:s=x
  ·subst he;go_wp2_with fail;go_ret;refine⟨⟨k,rfl,?_⟩,rfl⟩;rw[decide_eq_true (by omega),eq_comm,hasB_iff,HX.out];exact List.getElem_mem _
  ·have hne:=tl_ne he;have HE:=hide he;clear he;go_wp2_with fail
   go_roundw
   case rel=>
    refine⟨k+1,by omega,by go_num,?_,trivial⟩;rw[List.take_succ_eq_append_getElem hlt];intro hm
    rcases List.mem_append.1 hm with hm|hm
    ·exact unhide HNS hm
    ·exact unhide HE (by rw[HX.out];exact List.mem_singleton.1 hm)
   case measure=>simp[intOf];omega
 ):G:=h
theorem zrqh.zrddX {G:Prop}(h:G:=by
  have hcr:wr.cell? ⟨g,k,none⟩=some (.string x):=by rw[HBEL.out.cell (p:=⟨g,k,none⟩) hg];exact hc
  have HON:=hide (once_take l k hlt);have hol:=once_len (l.take k);rw[List.length_take] at hol;obtain⟨L,hL⟩:∃ L,L=onceL (l.take k):=⟨_,rfl⟩;rw[←hL] at hol;have HL:=hide hL
  have HOW2:Hid (SRow w.heap.size wr (.slice oa L.length oc) L):=by
   have h:=unhide HOWN;rw[←hL] at h;exact h
  rw[←hL];have hLk:L.length≤k:=by omega
  have HC:=hide (contains_any L x _ wr HOW2.out (by omega));have hgr:g<wr.heap.size:=Nat.lt_of_lt_of_le hg HBEL.out.size;have hsz:=HBEL.out.size;clear hx hc hg HOWN hL hol
  cases hh:hasB L x with
  | true=>
   rw[hh] at HC;have HH:=hide hh;clear hh;go_wp2_with fail;refine cm HC.out ?_;rintro e w2 ⟨rfl,rfl⟩;clear HC;go_wp2_with fail
   go_roundw
   case rel=>
    refine⟨k+1,by omega,by go_num,?_,HBEL.out⟩;rw[HON.out,←HL.out,←HX.out,addB,if_pos HH.out];exact unhide HOW2
   case measure=>simp[intOf];omega
  | false=>
   rw[hh] at HC;have HH:=hide hh;clear hh;go_wp2_with fail;refine cm HC.out ?_;rintro e w2 ⟨rfl,rfl⟩;clear HC
   go_wp2_with (at_builtin;refine wpList_append_lies _ rfl _ _ 38 rfl w.heap.size 9 i0 (.string ByteArray.empty) 1 16 Tryz.underlying38 hi0 hz0 hz1 hz2 rfl (by decide) _ _ _ rfl (HOW2.out.alloc _) ⟨w2.heap.size,0,none⟩ 1 1 [.string x] rfl rfl (hoCellsS w2 x _ rfl) (hoOneS x) (by decide) (by unfold maxLen;omega) (by omega) (by simp;omega) (w2.heap.size+1) (by simp) ?_)
   intro g' cap' w3 hown' hgrow hg' _;have HB3:=hide ((HBEL.out.alloc hsz (.cells #[.string x] 9)).grown hgrow (by simp;omega) (fun b hb=>(own_lt HOW2.out b hb).2))
   have HO3:=hide hown';clear hown' hgrow hg';go_wp2_with fail
   go_roundw
   case rel=>
    refine⟨k+1,by omega,by go_num,?_,HB3.out⟩;rw[HON.out,←HL.out,←HX.out,addB,if_neg (by rw[HH.out];decide)]
    have h:=unhide HO3
    show World.ownsRow _ _ _ _ _ _ _
    rw[List.length_append,List.map_append];exact h
   case measure=>simp[intOf];omega
 ):G:=h
theorem zrqi.zrelX {G:Prop}(h:G:=by
  refine⟨z,rfl,HZ.out.congr (fun b=>by show (_||inB [95] _)=_;rw[inB_under];rfl),?_⟩
  exact zbgn
 ):G:=h
theorem zrqj.zrelX {G:Prop}(h:G:=by
  refine⟨z,rfl,HZ.out.congr (fun b=>rfl),?_⟩;exact zbgn
 ):G:=h
theorem zrqk.zrbvX {G:Prop}(h:G:=by
  have HR5:=hide (HR4.out.ap (((Below.refl w.heap.size w4).alloc hsz (.cells #[nPtr p4] 22)).grown hgrow (by simp;omega) (fun k hk=>(unhide HOB k hk).2)) HLO.out)
  clear hown' hgrow hg HKK HOWN;go_wp2_with fail
  go_roundw
  case rel=>exact⟨k,acc++[t],j2,HQ.out,HR5.out,HA5.out,HK5.out,by simp;omega,fun u hu=>by
    rcases List.mem_append.1 hu with hu|hu
    ·exact unhide HEX u hu
    ·rw[List.mem_singleton] at hu;subst hu;exact unhide HFO _ _ _ _ (deepP_ok HRR.out)⟩
  case measure=>rw[nxt_eq HR5.out,nxt_eq HRM.out];omega
 ):G:=h
theorem zrqk.zrdrX {G:Prop}(h:G:=by
  have hle:=unhide HLE;exact zrbv
 ):G:=h
theorem zrqk.zrdaX {G:Prop}(h:G:=by
  have hlt2:=hrd.lt;have hgt:j<j2:=by
   obtain⟨kk,hkk⟩:=unhide HNX;exact((deepP_nx (l:=c.l) (d:=0) (hkk.st (0+1) j hjl)).2 t j2 HRR.out).1
  clear hrd ha hn4 HC HA3 HR3 HK3;exact zrdr
 ):G:=h
theorem zrqk.zrdwX {G:Prop}(h:G:=by
  clear hb3 HC HA2 HR2 HK2;have HC:=hide (node_any 1 noText (.slice va acc.length vc) w3 ⟨_,_,_,rfl⟩);go_wp2_with fail;refine cm HC.out ?_;rintro e wn ⟨rfl,rfl⟩;clear HC
  obtain⟨m1,m2,m3⟩:=made0 HR3.out HA3.out HK3.out 1 noText _ rfl
  have HC:=hide (code_any w.heap.size (.mk 1 noText 0 acc) (nPtr w3.heap.size) _ m1 (fun k1 r1 hk1 h15=>unhide HEX k1 (by have hk2:acc=k1::r1:=hk1;rw[hk2];simp) h15))
  have HM2:=hide m2;have HM3:=hide m3;clear m1 m2 m3;go_wp2_with fail;refine cm HC.out ?_;rintro e w5 ⟨rfl,hev,hbw⟩;have HEV:=hide hev;have HR5:=hide (HM2.out.ap hbw HLO.out)
  have HA5:=hide (HM3.out.trans (Ap.of hbw));clear hev hbw;go_wp2_with fail;go_ret;exact ppOk HQ.out.symm HEV.out.nv HR5.out HA5.out
 ):G:=h
end Go.Proofs.YtoimgcjbcbhclaaGreatDoor
