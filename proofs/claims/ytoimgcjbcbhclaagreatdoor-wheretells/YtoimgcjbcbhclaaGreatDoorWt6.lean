/-
  Parts of proofs that stand more than once.
-/
import Derived.Test.YtoimgcjbcbhclaaGreatDoorWt5
set_option maxRecDepth 100000
set_option maxHeartbeats 16000000
namespace Go.Proofs.YtoimgcjbcbhclaaGreatDoor
open Go.RowKit
theorem zrqbt.zrbeX {G:Prop}(h:G:=by
  obtain⟨ua,uc,hue⟩:=HOP.out.shape;subst hue;go_wp2_with fail;refine via2 (H:=fun wc pc=>Ap c.R wg1.heap.size wg1 wc∧Rdr c wc i5 d∧NAt (From wg1.heap.size) wc b2 pc) (G:=?G5) (fun CONT=>?_) ?_
  rotate_left
  ·exact zbab
  intro wc pc hY;obtain⟨ha0,hrd,hmc⟩:=hY;have HAc:=hide (HAg1.out.next ha0);have HA0c:=hide ha0;have HRc:=hide hrd;have HOc:=hide (Open.later HOP.out ha0 HLT.out);have HNc:=hide hmc
  obtain⟨gc3,gcf,gcl⟩:=HOc.out.cell;have gcl1:p0<wc.heap.size+1:=by omega
  have gcl2:p0<wc.heap.size+1+1:=by omega
  clear hrd ha0 hmc;obtain⟨n1,n2,n3⟩:=made (w:=wg1) HRc.out HA0c.out (NAts.cons HNc.out NAts.nil) (by simp[maxLen]) #[nPtr pc] rfl 1 rfl 13 s (wc.heap.size+1) rfl
  have hbd:Below wc.heap.size wc ((wc.alloc (.cells #[nPtr pc] 22)).alloc (nodeObj 13 s 0 (.slice (some ⟨wc.heap.size,0,none⟩) 1 1))):=((Below.refl _ _).alloc (Nat.le_refl _) _).alloc (by simp) _
  obtain⟨wd,hwd⟩:∃ wd,wd=(wc.alloc (.cells #[nPtr pc] 22)).alloc (nodeObj 13 s 0 (.slice (some ⟨wc.heap.size,0,none⟩) 1 1)):=⟨_,rfl⟩
  have hq:(wc.alloc (.cells #[nPtr pc] 22)).heap.size=wc.heap.size+1:=by simp
  obtain⟨q,hqq⟩:∃ q,q=wc.heap.size+1:=⟨_,rfl⟩;obtain⟨pq,hpq,hnq⟩:=n1.nv;have hpe:pq=wc.heap.size+1:=by simpa[nPtr] using hpq.symm
  subst hpe;have hws:wd.heap.size=q+1:=by rw[hwd,hqq];simp
  rw[←hwd] at hnq n2 n3 hbd
  try rw[hq]
  rw[←hqq] at hnq
  try rw[←hqq]
  try rw[←hwd]
  have HOd:=hide (Open.later HOc.out (Ap.of hbd) HLT.out);have HAd:=hide (HAc.out.next (Ap.of hbd));have HRd:=hide n2;have HNd:=hide (Open.apart HOP.out HAg1.out.size n3 HLT.out (NAts.cons hnq NAts.nil))
  obtain⟨ec3,ecf,ecl⟩:=HOd.out.cell;clear n1 n2 n3 hbd hnq hpq hwd hqq hq gc3 gcf gcl gcl1 gcl2;have hlen:=NAts.length _ _ HOd.out.kids;have hown:=HOd.out.row;rw[hlen] at hown;have HOWN:=hide hown
  have hsz:=HAd.out.size;have hkl:t0.kids.length≤3:=by rw[HKL.out];decide
  clear hown hlen;refine wr1 11 fun K hK=>?_
  refine step_append_lies _ rfl _ _ 46 rfl w.heap.size 22 i0' (.pointer none) 1 8 Tryz.underlying46 hi0 hz0 hz1 hz2 rfl (by decide) _ _ _ rfl (HOWN.out.alloc _) ⟨q+1,0,none⟩ 1 1 [nPtr q] rfl rfl (one_cells wd q _ hws) (one_one q) (by decide) (by unfold maxLen;omega) (by omega) (by simp;omega) (wd.heap.size+1) (by simp) ?_
  clear hws;intro g cap w3 hown3 hgr3 hg3 _;refine hK _ _ ?_;clear hK K;have HP1:=hide (push1 HOd.out HNd.out HRd.out HAd.out HLO.out hown3 hgr3 hg3)
  have hp3:w3.cell? ⟨p0,3,none⟩=wd.cell? ⟨p0,3,none⟩∧w3.frozen? ⟨p0,3,none⟩=wd.frozen? ⟨p0,3,none⟩:=by
   exact zbce
  obtain⟨hp3c,hp3f⟩:=hp3;rw[ec3] at hp3c;rw[ecf 3] at hp3f;clear hown3 hgr3 hg3;refine wt 12 (nPtr p0) ?_;refine wt 13 (.pointer (some ⟨p0,3,none⟩)) ?_;refine wr1 14 fun K hK=>?_;go_simp;refine hK _ _ ?_
  clear hK K hp3c hp3f ec3 ecf ecl HOWN;refine wpAny_done (by kernel_rfl) ?_ _;go_simp;obtain⟨m1,m2,m3⟩:=unhide HP1
  obtain⟨t0x,ht2⟩:∃ tq:Tr,tq=.mk t0.kd t0.tx t0.n (t0.kids++[.mk 13 s 0 [b2]]):=⟨_,rfl⟩;rw[←ht2] at m1;have HKLt0x:Hid (t0x.kids.length=t0.kids.length+1):=by
   show _=_
   rw[ht2];simp[Tr.kids]
  have HTt0x:=hide ht2;obtain⟨pz,uz,psz,hpz,hopz⟩:=m1.opens;have hpz2:pz=p0:=by simpa[nPtr] using hpz.symm
  rw[hpz2] at hopz;obtain⟨w4,hw4⟩:∃ w4,w4=(w3.setCell ⟨p0,3,none⟩ (.slice (some ⟨g,0,none⟩) (t0.kids.length+1) cap)):=⟨_,rfl⟩;rw[←hw4] at hopz m2 m3;rw[←hw4];clear HOP;have HOP:=hide hopz
  have HR4C:=hide m2;have HA4C:=hide m3;clear m1 m2 m3 hopz hpz hw4 hpz2 ht2 HP1 HCC;have HC:=hide (take_yes c tFinally w4 i5 d HR4C.out hf (by decide));go_wp2_with fail;refine cm HC.out ?_
  rintro e wz ⟨rfl,hrd,ha⟩;clear HC;have HRz:=hide hrd;have HAz:=hide (HA4C.out.next ha);replace HOP:=hide (Open.later HOP.out (ha) HLT.out);clear hrd ha;have HKL2:Hid (t0x.kids.length=2):=by
   show _=_
   rw[HKLt0x.out,HKL.out]
  have HCF:=hide (block_any hF hN wz.drew d (i5+1) _ rfl (by rw[h6];nofun) HRz.out.drew)
  rw[h6] at HCF;obtain⟨hc3,hcf,hcl⟩:=HOP.out.cell;obtain⟨ua,uc,hue⟩:=HOP.out.shape;subst hue;go_wp2_with fail;refine wp_region_any (by kernel_rfl) ?_;change wpAny _ _ _ _ _ _ _ (World.drew _)
  refine wt 0 (nPtr p0) ?_;refine wt 1 (nPtr p0) ?_;refine wt 2 (nPtr p0) ?_;refine wt 3 (.pointer (some ⟨p0,3,none⟩)) ?_;refine wt 5 (rPtr c) ?_;refine wr2 4 6 (fun K hK=>?_) fun K hK=>?_
  ·go_simp;refine hK _ _ ?_;clear hK K;refine wr1 6 fun K hK=>?_;exact zbhf
  ·exact zbhf
 ):G:=h
theorem zrqbt.zrcX {G:Prop}(h:G:=by
  clear hwn hpe2;exact zrbe
 ):G:=h
theorem zrqbu.zrbyX {G:Prop}(h:G:=by
  exact zcce
 ):G:=h
theorem zrqbu.zrchX {G:Prop}(h:G:=by
  exact zcce
 ):G:=h
theorem zrqbu.zrcbX {G:Prop}(h:G:=by
  exact zeap
 ):G:=h
theorem zrqbu.zrduX {G:Prop}(h:G:=by
  exact zrcb
 ):G:=h
theorem zrqbv.zrbyX {G:Prop}(h:G:=by
  exact zbdk
 ):G:=h
theorem zrqbv.zrchX {G:Prop}(h:G:=by
  exact zbdk
 ):G:=h
theorem zrqbv.zrcbX {G:Prop}(h:G:=by
  exact zeap
 ):G:=h
theorem zrqbv.zrduX {G:Prop}(h:G:=by
  exact zrcb
 ):G:=h
theorem zrqbw.zrehX {G:Prop}(h:G:=by
  obtain⟨W2,hW2⟩:∃ W2,W2=(((w1.setCell ⟨w.heap.size+1,0,none⟩ (.string ⟨#[]⟩)).setCell ⟨w.heap.size+1,1,none⟩ (.int .i64 0)).setCell ⟨w.heap.size+1,2,none⟩ (.int .i64 0)).setCell ⟨w.heap.size+1,3,none⟩ (.int .i64 0):=⟨_,rfl⟩
  obtain⟨hr2,hb2,⟨q0,q1,q2,q3,qf,qlt⟩,⟨s0,s1,s2,s3,sf,slt⟩⟩:=w2_any (v0:=.string ⟨#[]⟩) (v1:=.int .i64 0) (v2:=.int .i64 0) (v3:=.int .i64 0) HR1.out HR0.out.base.size P0.out P1.out HW.out hW2
  exact zccd
 ):G:=h
theorem zrqbw.zrdyX {G:Prop}(h:G:=by
  obtain⟨W2,hW2⟩:∃ W2,W2=w1.alloc (.cells #[.string ⟨#[]⟩,.int .i64 0,.int .i64 0,.int .i64 0] 189):=⟨_,rfl⟩
  obtain⟨hr2,hb2,⟨q0,q1,q2,q3,qf,qlt⟩,⟨s0,s1,s2,s3,sf,slt⟩⟩:=w1_any (v0:=.string ⟨#[]⟩) (v1:=.int .i64 0) (v2:=.int .i64 0) (v3:=.int .i64 0) HR1.out P0.out HW.out hW2;exact zccd
 ):G:=h
theorem zrqbw.zrcbX {G:Prop}(h:G:=by
  refine wpAnyH_ready (rs:=[5,10]) (by kernel_rfl) (by simp) (AllReadyH.cons rfl (fun K hK=>?_) (AllReadyH.cons rfl (fun K hK=>?_) AllReadyH.nil))
  ·go_simp;refine cm (HT.out _ HR.out) ?_;rintro e w1 ⟨rfl,hb⟩;obtain⟨hr1,hbw,p0⟩:=sf_one HR0.out hb;have HR1:=hide hr1;have HW:=hide hbw;have P0:=hide p0;clear hb hr1 hbw p0
   refine hK.out _ _ HR1.out (fun _=>?_);clear hK K
   refine wg 6 (.tuple #[.agg #[.string ⟨#[]⟩,.int .i64 0,.int .i64 0,.int .i64 0],.bool false]) rfl (Or.inl ⟨by kernel_rfl,fun W hW=>by have hh:=HL.out W hW;go_simp⟩) HR1.out ?_
   exact zrdy
  ·go_simp;refine hK.out _ _ (unhide HR') (fun _=>?_);clear hK K;refine wq1 5 fun K hK=>?_;go_simp;refine cm (HT.out _ (unhide HR')) ?_;rintro e w1 ⟨rfl,hb⟩;obtain⟨hr1,hbw,p0,p1⟩:=sf_two HR0.out hb
   obtain⟨r0,r1,r2,r3,rf,rlt⟩:=c160 p1;have HR1:=hide hr1;have HW:=hide hbw;have P0:=hide p0;have P1:=hide p1;clear hb hr1 hbw p0 p1;refine hK.out _ _ HR1.out (fun _=>?_);clear hK K
   refine wg 6 (.tuple #[.agg #[.string ⟨#[]⟩,.int .i64 0,.int .i64 0,.int .i64 0],.bool false]) rfl (Or.inl ⟨by kernel_rfl,fun W hW=>by have hh:=HL.out W hW;go_simp⟩) HR1.out ?_
   exact zreh
 ):G:=h
theorem zrqbx.zrcfX {G:Prop}(h:G:=by
  cases hr:deepP c.l F.vl d j1 with
  | out=>
   exact zbal
  | bad er p=>
   have HC:=hide (deepV hF w1 d j1 HR1.out (by rw[hr];nofun))
   exact zbcn
  | ok x2 j2=>
   have HC:=hide (deepV hF w1 d j1 HR1.out (by rw[hr];nofun))
   rw[hr] at HC HS;simp only[bind_ok] at HS;clear hr;go_wp2_with fail;refine cm HC.out ?_;intro e w2 hp;obtain⟨⟨v2,rfl,p2,rfl,hn2⟩,hrd,ha⟩:=hp;clear HC;have HA2:=hide (HA1.out.next ha)
   have HR2:=hide hrd;have HN2:=hide (nat_mono hn2 HA1.out.size);clear hn2;clear hrd ha HA1 HR1
   cases hr:mustP c.l tShut j2 with
   | out=>
    exact zbal
   | bad er p=>
    have HC:=hide (must_any c tShut w2 j2 d HR2.out (by decide));exact zbcm
   | ok x3 j3=>
    have HC:=hide (must_any c tShut w2 j2 d HR2.out (by decide));rw[hr] at HC HS;simp only[bind_ok] at HS;clear hr;go_wp2_with fail;refine cm HC.out ?_;intro e w3 hp;obtain⟨⟨v3,rfl,rfl⟩,hrd,ha⟩:=hp
    clear HC;have HA3:=hide (HA2.out.next ha);have HR3:=hide hrd;replace HN2:=hide (nat_later HN2.out ha HLT.out);clear hrd ha HA2 HR2;go_wp2_with fail;go_ret
    exact ppOk HS.out.symm ⟨p2,rfl,HN2.out⟩ HR3.out HA3.out
 ):G:=h
theorem zrqby.zrbvX {G:Prop}(h:G:=by
  have HR5:=hide (HR4.out.ap (((Below.refl w.heap.size w4).alloc hsz (.cells #[nPtr p4] 22)).grown hgrow (by simp;omega) (fun k hk=>(unhide HOB k hk).2)) HLO.out)
  clear hown' hgrow hg HKK HOWN;go_wp2_with fail
  go_roundw
  case rel=>exact⟨k,acc++[t],j2,HQ.out,HR5.out,HA5.out,HK5.out,by simp;omega⟩
  case measure=>rw[nxt_eq HR5.out,nxt_eq HRM.out];omega
 ):G:=h
theorem zrqby.zrdrX {G:Prop}(h:G:=by
  have hle:=unhide HLE;exact zrbv
 ):G:=h
theorem zrqby.zrdaX {G:Prop}(h:G:=by
  have hlt2:=hrd.lt;have hgt:j<j2:=by
   obtain⟨kk,hkk⟩:=unhide HNX;exact((deepP_nx (l:=c.l) (d:=d) (hkk.st (d+1) j hjl)).2 t j2 HRR.out).1
  clear hrd ha hn4 HC HA3 HR3 HK3;exact zrdr
 ):G:=h
theorem zrqby.zrdwX {G:Prop}(h:G:=by
  clear hb3 HC HA2 HR2 HK2;have HC:=hide (deepS HFC.out w3 d j HR3.out (by rw[HRR.out];nofun))
  rw[HRR.out] at HC;exact zrda
 ):G:=h
theorem zrqbz.zrdaX {G:Prop}(h:G:=by
  exact zbaq
 ):G:=h
theorem zrqbz.zrdwX {G:Prop}(h:G:=by
  clear hb3 HC HA2 HR2 HK2 h8i
  have HQ2:Hid ((sp d j).bind (fun t i1=>if fx c.l i1=shut then PR.ok (acc++[t]) (i1+1) else (mustP c.l tComma i1).bind fun _ i2=>listLoop c.l shut begins (sp d) k (acc++[t]) i2)=r):=unhide HQ;clear HQ
  cases hr:sp d j with
  | out=>
   exact zccj
  | bad er p=>
   have HC:Hid _:=unhide HP w3 d j _ rfl (by rw[hr];nofun) HR3.out
   rw[hr] at HC HQ2;simp only[bind_bad] at HQ2;clear hr;go_wp2_with fail;refine cm HC.out ?_;intro e w' hp;obtain⟨rfl,ha⟩:=hp;exact⟨rfl,ppBad HQ2.out.symm (HA3.out.next ha)⟩
  | ok t j2=>
   have HC:Hid _:=unhide HP w3 d j _ rfl (by rw[hr];nofun) HR3.out
   have hgt:j<j2:=unhide HGO d j t j2 hjl hr;rw[hr] at HC HQ2;simp only[bind_ok] at HQ2;clear hr;exact zrda
 ):G:=h
theorem zrqca.zrbqX {G:Prop}(h:G:=by
  exact bodyPost_ret (v:=.tuple #[.agg #[.int .i64 2,.string (s.extract k e),.int .i64 0,.int .i64 (k:Int)],.int .i64 (e:Int),.nilIface]) (by simp[results,Tryz.results157,go_sem,hc]) rfl ⟨rfl,good_end HBEL.out _ _ _ _⟩
 ):G:=h
theorem zrqcb.zrbqX {G:Prop}(h:G:=by
  exact bodyPost_ret (v:=.tuple #[.agg #[.int .i64 1,.string (s.extract k e),.int .i64 0,.int .i64 (k:Int)],.int .i64 (e:Int),.nilIface]) (by simp[results,Tryz.results157,go_sem,hc]) rfl ⟨rfl,good_end HBEL.out _ _ _ _⟩
 ):G:=h
theorem zrqcc.zrbqX {G:Prop}(h:G:=by
  refine(fail_any _ _ _).mono ?_;rintro e4 w4 ⟨b,rfl,hb,hlb,hbel2⟩;have hbel:=HBEL.out.trans (hbel2.mono HBEL.out.size);have hlb2:=Nat.le_trans HBEL.out.size hlb;clear hc hf;obtain⟨hc,hf⟩:=bcell hbel
  have HB:=hide hb;have HBEL2:=hide hbel;clear hb hbel hbel2 hlb;go_wp2_with fail
  exact bodyPost_ret (v:=.tuple #[noTok,.int .i64 0,.iface 144 (.pointer (some ⟨b,0,none⟩))]) (by simp[results,Tryz.results157,go_sem,hc]) rfl ⟨b,rfl,bad_end HBEL2.out hlb2 HB.out _ _ _ _⟩
 ):G:=h
theorem zrqcd.zrjX {G:Prop}(h:G:=by
  have hc0:=readNum_any s k w4 hs hk HD.out;rw[HR.out] at hc0;refine cm hc0 ?_;clear hc0;exact zcby
 ):G:=h
theorem zrqce.zrjX {G:Prop}(h:G:=by
  have hc0:=readStr_any s k w4 hs hk;rw[HR.out] at hc0;refine cm hc0 ?_;clear hc0;exact zcby
 ):G:=h
theorem zrqcf.zrjX {G:Prop}(h:G:=by
  have hLL:=HLS.out.later HBEL3.out;obtain⟨t,fr,hg⟩:=hLL.hg;have hc0:=readSign_any gs s k w4 hs hk hLL.lg hLL.zg t fr hg;rw[HR.out] at hc0;refine cm hc0 ?_;clear hc0 hg hLL;exact zcby
 ):G:=h
theorem zrqcg.zrjX {G:Prop}(h:G:=by
  have hc0:=readNum_any s k w4 hs hk HD.out;rw[HR.out] at hc0;refine cm hc0 ?_;clear hc0;exact zcbh
 ):G:=h
theorem zrqch.zrjX {G:Prop}(h:G:=by
  have hc0:=readStr_any s k w4 hs hk;rw[HR.out] at hc0;refine cm hc0 ?_;clear hc0;exact zcbh
 ):G:=h
theorem zrqci.zrjX {G:Prop}(h:G:=by
  have hLL:=HLS.out.later HBEL3.out;obtain⟨t,fr,hg⟩:=hLL.hg;have hc0:=readSign_any gs s k w4 hs hk hLL.lg hLL.zg t fr hg;rw[HR.out] at hc0;refine cm hc0 ?_;clear hc0 hg hLL;exact zcbh
 ):G:=h
theorem zrqcj.zruX {G:Prop}(h:G:=by
  have hLL:=HLS.out.later HBEL.out;obtain⟨t,fr,hg⟩:=hLL.hw;have hc0:=readName_any ws s k w2 hs hk hLL.lw t fr hg;rw[HR.out] at hc0;refine cm hc0 ?_;clear hc0 hg hLL;rintro e5 w5 ⟨rfl,hb5⟩
  have hbelA:=HBEL.out.trans (hb5.mono HBEL.out.size);exact zbbz
 ):G:=h
theorem zrqck.zruX {G:Prop}(h:G:=by
  have hLL:=HLS.out.later HBEL.out;obtain⟨t,fr,hg⟩:=hLL.hw;have hc0:=readName_any ws s k w2 hs hk hLL.lw t fr hg;rw[HR.out] at hc0;refine cm hc0 ?_;clear hc0 hg hLL;rintro e5 w5 ⟨b,rfl,hb,hlb,hbel5⟩
  have hbelA:=HBEL.out.trans (hbel5.mono HBEL.out.size);have hlb2:=Nat.le_trans HBEL.out.size hlb;exact zbbv
 ):G:=h
theorem zrqcl.zrcaX {G:Prop}(h:G:=by
  go_loop [5] (fun v=>∃ q:Nat,j≤q∧q≤e∧v=.int .i64 q∧pastN digB s q=e) (fun v=>s.size - (intOf v).toNat)
  case atStart=>exact⟨j,Nat.le_refl _,by omega,rfl,HEE.out⟩
  case round=>
   obtain⟨q,hq1,hq2,rfl,hqe⟩:=hrel
   by_cases hqs:q<s.size
   ·
    cases hd:digB (s[q].toNat:Int)
    ·have hst:=pastN_stop digB s q hqs hd;have hqq:e=q:=by omega
     subst hqq;have HD1:=hide hd;clear hd hst hqe;go_wp2_with fail;refine(isDigit_any _ _).mono ?_;rw[HD1.out];rintro e2 w2 ⟨rfl,rfl⟩;exact zcch
    ·exact zcaa
   ·exfalso;omega
 ):G:=h
theorem zrqcl.zriX {G:Prop}(h:G:=by
  have hq:r=.bad 2 j:=by rw[←HE.out,toksR_bad ws signsS s j acc 2 j hlt hrd]
  subst hq;have HEE:=hide hee;have HLET:=hide hlet;have HDIG:=hide hdig;have HNN:=hide hn;clear hn;clear hee hlet hdig HE hrd;exact zrca
 ):G:=h
theorem zrqcm.zrcaX {G:Prop}(h:G:=by
  go_loop [5] (fun v=>∃ q:Nat,j≤q∧q≤e∧v=.int .i64 q∧pastN digB s q=e) (fun v=>s.size - (intOf v).toNat)
  case atStart=>exact⟨j,Nat.le_refl _,by omega,rfl,HEE.out⟩
  case round=>
   obtain⟨q,hq1,hq2,rfl,hqe⟩:=hrel
   by_cases hqs:q<s.size
   ·exact zeam
   ·have hqq:e=q:=by have:=pastN_end digB s q (by omega);omega
    subst hqq;clear hqe;exact zcch
 ):G:=h
theorem zrqcm.zriX {G:Prop}(h:G:=by
  have hq:r=.bad 2 j:=by rw[←HE.out,toksR_bad ws signsS s j acc 2 j hlt hrd]
  subst hq;have HEE:=hide hee;have HLET:=hide hlet;have HDIG:=hide hdig;have HNN:=hide hn;clear hn;clear hee hlet hdig HE hrd;have hex2:s.size≤e:=by omega
  clear hex;exact zrca
 ):G:=h
theorem zrqcn.zrcrX {G:Prop}(h:G:=by
  exact zcaq
 ):G:=h
theorem zrqcn.zrdkX {G:Prop}(h:G:=by
  exact zeab
 ):G:=h
theorem zrqcn.zriX {G:Prop}(h:G:=by
  have HST:=hide ((toksR_go ws signsS s j acc (2) (0) (s.extract j e) e hlt hrd (by omega)).symm.trans HE.out);exact zrdk
 ):G:=h
theorem zrqco.zrdbX {G:Prop}(h:G:=by
  go_loop [5] (fun v=>∃ q:Nat,j≤q∧q≤e∧v=.int .i64 q∧pastN lodB s q=e) (fun v=>s.size - (intOf v).toNat)
  case atStart=>exact⟨j,Nat.le_refl _,by omega,rfl,HEE.out⟩
  case round=>
   obtain⟨q,hq1,hq2,rfl,hqe⟩:=hrel
   by_cases hqs:q<s.size
   ·exact zdag
   ·have hqq:e=q:=by have:=pastN_end lodB s q (by omega);omega
    subst hqq;clear hqe;exact zcaq
 ):G:=h
theorem zrqco.zriX {G:Prop}(h:G:=by
  have HST:=hide ((toksR_go ws signsS s j acc (2) (0) (s.extract j e) e hlt hrd (by omega)).symm.trans HE.out);exact zrdb
 ):G:=h
theorem zrqcp.zrcrX {G:Prop}(h:G:=by
  exact zcar
 ):G:=h
theorem zrqcp.zrdkX {G:Prop}(h:G:=by
  exact zeab
 ):G:=h
theorem zrqcp.zriX {G:Prop}(h:G:=by
  have HST:=hide ((toksR_go ws signsS s j acc (1) (0) (s.extract j e) e hlt hrd (by omega)).symm.trans HE.out);exact zrdk
 ):G:=h
theorem zrqcq.zrdbX {G:Prop}(h:G:=by
  go_loop [5] (fun v=>∃ q:Nat,j≤q∧q≤e∧v=.int .i64 q∧pastN lodB s q=e) (fun v=>s.size - (intOf v).toNat)
  case atStart=>exact⟨j,Nat.le_refl _,by omega,rfl,HEE.out⟩
  case round=>
   obtain⟨q,hq1,hq2,rfl,hqe⟩:=hrel
   by_cases hqs:q<s.size
   ·exact zdag
   ·have hqq:e=q:=by have:=pastN_end lodB s q (by omega);omega
    subst hqq;clear hqe;exact zcar
 ):G:=h
theorem zrqcq.zriX {G:Prop}(h:G:=by
  have HST:=hide ((toksR_go ws signsS s j acc (1) (0) (s.extract j e) e hlt hrd (by omega)).symm.trans HE.out);exact zrdb
 ):G:=h
theorem zrqcr.zrcrX {G:Prop}(h:G:=by
  exact zben
 ):G:=h
theorem zrqcr.zrdkX {G:Prop}(h:G:=by
  exact zeab
 ):G:=h
theorem zrqcr.zriX {G:Prop}(h:G:=by
  have hq:r=.bad 4 j:=by rw[←HE.out,toksR_bad ws signsS s j acc 4 j hlt hrd]
  subst hq;exact zrdk
 ):G:=h
theorem zrqcs.zrdbX {G:Prop}(h:G:=by
  go_loop [5] (fun v=>∃ q:Nat,j≤q∧q≤e∧v=.int .i64 q∧pastN lodB s q=e) (fun v=>s.size - (intOf v).toNat)
  case atStart=>exact⟨j,Nat.le_refl _,by omega,rfl,HEE.out⟩
  case round=>
   obtain⟨q,hq1,hq2,rfl,hqe⟩:=hrel
   by_cases hqs:q<s.size
   ·exact zdag
   ·have hqq:e=q:=by have:=pastN_end lodB s q (by omega);omega
    subst hqq;clear hqe;exact zben
 ):G:=h
theorem zrqcs.zriX {G:Prop}(h:G:=by
  have hq:r=.bad 4 j:=by rw[←HE.out,toksR_bad ws signsS s j acc 4 j hlt hrd]
  subst hq;exact zrdb
 ):G:=h
theorem zrqct.zrdxX {G:Prop}(h:G:=by
  have hp1:=(SR.ok.inj hqe).1;have hp2:=(SR.ok.inj hqe).2;subst hp1;subst hp2;clear hqe;have hos:=ofB_size said;have hos2:(ofBytes said).size≤500:=by omega
  clear hos b1 b2 b3 c1 hbt
  go_wp2_with (at_builtin;refine wpList_append_own _ rfl _ _ 161 rfl (w.heap.size+1) 167 i0 noTok 4 40 Tryz.underlying161 hi hz0 hz1 hz2 rfl (by decide) _ _ _ rfl (HI.out.own.alloc _) ⟨w1.heap.size,0,none⟩ 1 1 [.int .i64 4,.string (ofBytes said),.int .i64 0,.int .i64 (j:Int)] rfl rfl (new4_cells _ _ _ _ _) (new4_one _ _ _ _) (by unfold maxLen;omega) (by omega) (by have:=HI.out.size;simp;omega) ?_;intro v' w5 hown' hgrow _;have HI5:=hide (HI.out.app (t:=Tk.mk 4 (ofBytes said) 0 j) _ hown' hgrow);clear hown' hgrow)
  exact⟨WI_mk (q+1) (acc++[Tk.mk 4 (ofBytes said) 0 j]) v' hes (by simp;omega) HST.out HI5.out (by kernel_rfl),by simp[mu6,intOf];omega⟩
 ):G:=h
theorem zrqct.zrcaX {G:Prop}(h:G:=by
  exact zeac
 ):G:=h
theorem zrqct.zriX {G:Prop}(h:G:=by
  have HST:=hide ((toksR_go ws signsS s j acc (4) (0) (ofBytes l) e hlt hrd (by omega)).symm.trans HE.out);exact zean
 ):G:=h
theorem zrqcu.zrdxX {G:Prop}(h:G:=by
  have hp1:=(SR.ok.inj hqe).1;have hp2:=(SR.ok.inj hqe).2;subst hp1;subst hp2;clear hqe;have hos:=ofB_size said;have hos2:500<(ofBytes said).size:=by omega
  clear hos b1 b2 b3 c1 hbt;go_wp2_with fail;exact bodyPost_ret (v:=.tuple #[.slice none 0 0,.agg #[.int .i64 4,.int .i64 (j:Int)]]) (by simp[results,Tryz.results109,go_sem,rc0,rc1]) rfl ⟨rfl,HI.out.out _ _⟩
 ):G:=h
theorem zrqcu.zrcaX {G:Prop}(h:G:=by
  exact zeac
 ):G:=h
theorem zrqcu.zriX {G:Prop}(h:G:=by
  have hq:r=.bad 4 j:=by rw[←HE.out,toksR_bad ws signsS s j acc 4 j hlt hrd]
  subst hq;exact zean
 ):G:=h
theorem zrqcv.zrdxX {G:Prop}(h:G:=by
  cases hqe
 ):G:=h
theorem zrqcv.zrcaX {G:Prop}(h:G:=by
  go_loop [5,12] (fun i v=>∃ (q:Nat) (said:List UInt8),j+1≤q∧q≤s.size∧said.length≤q∧i=.int .i64 q∧v=.string (ofBytes said)∧strR s q said=.bad p) (fun i _=>s.size - (intOf i).toNat)
  case atStart=>exact⟨j+1,[],Nat.le_refl _,by omega,by simp,by go_num,rfl,HR.out⟩
  case round=>
   obtain⟨q,said,hq1,hq2,hq3,rfl,rfl,hqe⟩:=hrel
   by_cases hqs:q<s.size
   ·have hbt:=bt_eq s q hqs;have b1:=byte_eq s[q] 39;have b2:=byte_eq s[q] 10;have b3:=byte_eq s[q] 92;have ql:((q:Int)==(s.size:Int))=false:=beq_eq_false_iff_ne.2 (by omega)
    by_cases c1:s[q]=39
    ·exact zrdx
    ·have t1:(((s[q].toNat:Nat):Int)==39)=false:=by rw[show (39:Int)=(((39:UInt8).toNat:Nat):Int) from rfl,b1];simp[c1]
     by_cases c2:s[q]=10
     ·have t2:(((s[q].toNat:Nat):Int)==10)=true:=by rw[c2];rfl
      rw[strR_lf s q said hqs (by rw[hbt];exact c2)] at hqe
      have hpp:=SR.bad.inj hqe;subst hpp;clear hqe;clear b1 b2 b3 c1 c2 hbt;go_wp2_with fail
      exact bodyPost_ret (v:=.tuple #[.slice none 0 0,.agg #[.int .i64 3,.int .i64 (q:Int)]]) (by simp[results,Tryz.results109,go_sem,rc0,rc1]) rfl ⟨rfl,HI.out.out _ _⟩
     ·have t2:(((s[q].toNat:Nat):Int)==10)=false:=by rw[show (10:Int)=(((10:UInt8).toNat:Nat):Int) from rfl,b2];simp[c2]
      by_cases c3:s[q]=92
      ·have t3:(((s[q].toNat:Nat):Int) != 92)=false:=by rw[c3];rfl
       by_cases hq4:q+1<s.size
       ·have ql2:(((q:Int)+1)==(s.size:Int))=false:=beq_eq_false_iff_ne.2 (by omega);have hbt2:=bt_eq s (q+1) hq4;have d1:=byte_eq s[q+1] 110;have d2:=byte_eq s[q+1] 39
        have d3:=byte_eq s[q+1] 92
        by_cases k1:s[q+1]=110
        ·exact zcau
        ·have u1:(((s[q+1].toNat:Nat):Int)==110)=false:=by rw[show (110:Int)=(((110:UInt8).toNat:Nat):Int) from rfl,d1];simp[k1]
         by_cases k2:s[q+1]=39
         ·have u2:(((s[q+1].toNat:Nat):Int)==39)=true:=by rw[k2];rfl
          rw[strR_esc s q said s[q+1] hqs (by rw[hbt];exact c3) hq4 (by rw[hbt2,k2];rfl)] at hqe
          have HQ:=hide hqe;have hos:=ofB_size said;have hos2:(ofBytes said).size≤3000:=by omega
          clear hqe hos b1 b2 b3 c1 c2 c3 hbt hbt2 d1 d2 d3 k1 k2;exact zbbu
         ·have u2:(((s[q+1].toNat:Nat):Int)==39)=false:=by rw[show (39:Int)=(((39:UInt8).toNat:Nat):Int) from rfl,d2];simp[k2]
          by_cases k3:s[q+1]=92
          ·have u3:(((s[q+1].toNat:Nat):Int)==92)=true:=by rw[k3];rfl
           rw[strR_esc s q said s[q+1] hqs (by rw[hbt];exact c3) hq4 (by rw[hbt2,k3];rfl)] at hqe
           have HQ:=hide hqe;have hos:=ofB_size said;have hos2:(ofBytes said).size≤3000:=by omega
           clear hqe hos b1 b2 b3 c1 c2 c3 hbt hbt2 d1 d2 d3 k1 k2 k3;exact zbbu
          ·have u3:(((s[q+1].toNat:Nat):Int)==92)=false:=by rw[show (92:Int)=(((92:UInt8).toNat:Nat):Int) from rfl,d3];simp[k3]
           have hno:esc (bt s (q+1))=none:=by rw[hbt2];simp[esc,k1,k2,k3]
           rw[strR_noesc s q said hqs (by rw[hbt];exact c3) (fun _=>hno)] at hqe
           have hpp:=SR.bad.inj hqe;subst hpp;clear hqe;clear hno b1 b2 b3 c1 c2 c3 hbt hbt2 d1 d2 d3 k1 k2 k3;exact zbfk
       ·have ql2:(((q:Int)+1)==(s.size:Int))=true:=beq_iff_eq.2 (by omega);rw[strR_noesc s q said hqs (by rw[hbt];exact c3) (fun h=>absurd h hq4)] at hqe
        have hpp:=SR.bad.inj hqe;subst hpp;clear hqe;clear b1 b2 b3 c1 c2 c3 hbt;exact zbfk
      ·exact zcao
   ·have hqq:s.size=q:=by omega
    subst hqq;rw[strR_end s s.size said hqs] at hqe;have hpp:=SR.bad.inj hqe;subst hpp;clear hqe;go_wp2_with fail
    exact bodyPost_ret (v:=.tuple #[.slice none 0 0,.agg #[.int .i64 3,.int .i64 (s.size:Int)]]) (by simp[results,Tryz.results109,go_sem,rc0,rc1]) rfl ⟨rfl,HI.out.out _ _⟩
 ):G:=h
theorem zrqcv.zriX {G:Prop}(h:G:=by
  have hq:r=.bad 3 p:=by rw[←HE.out,toksR_bad ws signsS s j acc 3 p hlt hrd]
  subst hq;exact zean
 ):G:=h
theorem zrqcw.zrbrX {G:Prop}(h:G:=by
  go_loop [13,15,207] (fun a _ b=>∃ q:Nat,q≤19∧b=.int .i64 q∧a=.string ⟨#[]⟩) (fun _ _ b=>19 - (intOf b).toNat)
  case atStart=>exact⟨0,Nat.zero_le _,rfl,rfl⟩
  case round=>
   obtain⟨q,hq,rfl,rfl⟩:=hrel
   by_cases hq19:q<19
   ·have hck:=unhide HCE q hq19;have hgz:=signs_sz q hq19;have hpf:=unhide HNO q hq19;obtain⟨g,hg⟩:∃ g,g=signsS.getD q ByteArray.empty:=⟨_,rfl⟩;rw[←hg] at hck hgz hpf;have HPF:=hide hpf
    clear hpf hg;go_wp2_with fail;refine(hasPrefix_any _ _ _ (by unfold maxLen;simp;omega) (by unfold maxLen;omega)).mono ?_
    rw[HPF.out];rintro e4 w4 ⟨rfl,rfl⟩;go_wp2_with fail
    go_round
    case rel=>exact⟨q+1,by omega,by go_num,rfl⟩
    case measure=>simp[intOf];omega
   ·go_wp2_with fail;exact bodyPost_ret (v:=.tuple #[.slice none 0 0,.agg #[.int .i64 3,.int .i64 (j:Int)]]) (by simp[results,Tryz.results109,go_sem,rc0,rc1]) rfl ⟨rfl,HI1.out.out _ _⟩
 ):G:=h
theorem zrqcw.zriX {G:Prop}(h:G:=by
  have hq:r=.bad 3 j:=by rw[←HE.out,toksR_bad ws signsS s j acc 3 j hlt hrd]
  subst hq;exact zrbr
 ):G:=h
theorem zrqcx.zrbrX {G:Prop}(h:G:=by
  go_loop [13,15,207] (fun a _ b=>∃ q:Nat,q≤19∧b=.int .i64 q∧((q≤m∧a=.string ⟨#[]⟩)∨(m<q∧a=.string g))) (fun _ _ b=>19 - (intOf b).toNat)
  case atStart=>exact⟨0,Nat.zero_le _,rfl,Or.inl ⟨Nat.zero_le _,rfl⟩⟩
  case round=>
   obtain⟨q,hq,rfl,hrest⟩:=hrel
   by_cases hq19:q<19
   ·have hck:=unhide HCE q hq19;have hgz:=signs_sz q hq19
    rcases hrest with ⟨hqm,rfl⟩|⟨hqm,rfl⟩
    ·by_cases hqq:q=m
     ·subst hqq;rw[HGM.out] at hck hgz;have HPF:=hide HYES.out;go_wp2_with fail;refine(hasPrefix_any _ _ _ (by unfold maxLen;simp;omega) (by unfold maxLen;omega)).mono ?_
      rw[HPF.out];rintro e4 w4 ⟨rfl,rfl⟩;exact zbgr
     ·have hpf:=unhide HNO q (by omega);obtain⟨g',hg⟩:∃ g',g'=signsS.getD q ByteArray.empty:=⟨_,rfl⟩;rw[←hg] at hck hgz hpf;have HPF:=hide hpf;clear hpf hg;go_wp2_with fail
      refine(hasPrefix_any _ _ _ (by unfold maxLen;simp;omega) (by unfold maxLen;omega)).mono ?_
      rw[HPF.out];rintro e4 w4 ⟨rfl,rfl⟩;go_wp2_with fail
      go_round
      case rel=>exact⟨q+1,by omega,by go_num,Or.inl ⟨by omega,rfl⟩⟩
      case measure=>simp[intOf];omega
    ·obtain⟨g',hg⟩:∃ g',g'=signsS.getD q ByteArray.empty:=⟨_,rfl⟩;rw[←hg] at hck hgz;clear hg;exact zbgr
   ·rcases hrest with ⟨hqm,rfl⟩|⟨hqm,rfl⟩
    ·exfalso;omega
    ·go_wp2_with (at_builtin;refine wpList_append_own _ rfl _ _ 161 rfl (w.heap.size+1) 167 i0 noTok 4 40 Tryz.underlying161 hi hz0 hz1 hz2 rfl (by decide) _ _ _ rfl (HI1.out.own.alloc _) ⟨W1.heap.size,0,none⟩ 1 1 [.int .i64 5,.string g,.int .i64 0,.int .i64 (j:Int)] rfl rfl (new4_cells _ _ _ _ _) (new4_one _ _ _ _) (by unfold maxLen;omega) (by omega) (by have:=HI1.out.size;simp;omega) ?_;intro v' w5 hown' hgrow _;have HI5:=hide (HI1.out.app (t:=Tk.mk 5 g 0 j) _ hown' hgrow);clear hown' hgrow)
     exact⟨WI_mk (j+g.size) (acc++[Tk.mk 5 g 0 j]) v' (by omega) (by simp;omega) (by have h:=unhide HST;rw[←heg] at h;exact h) HI5.out (by kernel_rfl),by simp[mu6,intOf];omega⟩
 ):G:=h
theorem zrqcx.zriX {G:Prop}(h:G:=by
  have HST:=hide ((toksR_go ws signsS s j acc (5) (0) (g) e hlt hrd (by omega)).symm.trans HE.out);have HYES:=hide hyes;have HGM:=hide hgm;have hemp:=notEmpty g hg1;clear hyes hgm;exact zrbr
 ):G:=h
theorem zrqcy.zrddX {G:Prop}(h:G:=by
  clear hx
  by_cases he:x=s
  ·have hRt:R=true:=by rw[HRR.out,hasB_iff,←he,HX.out];exact List.getElem_mem _
   subst he hRt;go_wp2_with fail;go_ret;exact⟨rfl,rfl⟩
  ·have hne:=tl_ne he;have HE:=hide he;clear he;go_wp2_with fail
   go_roundw
   case rel=>
    refine⟨k+1,by omega,by go_num,?_,trivial⟩;rw[List.take_succ_eq_append_getElem hlt];intro hm
    rcases List.mem_append.1 hm with hm|hm
    ·exact unhide HNS hm
    ·exact unhide HE (by rw[HX.out];exact(List.mem_singleton.1 hm).symm)
   case measure=>simp[intOf];omega
 ):G:=h
theorem zrqcz.zrqX {G:Prop}(h:G:=by
  rw[decide_eq_true hf] at hx;have HX:=hide hx;have HS:=hide hs;have HO:=hide ho;have HF:=hide hF;clear hx h hf hn1 hn3 hn4 hs ho hF;go_enter Tryz.func297,Tryz.ntmps297;go_wp2_with fail
  refine cm HC1.out ?_;rintro e w1 ⟨rfl,rfl⟩;clear HC1;go_wp2_with fail
  go_region
  go_wp2_with fail;refine cm HX.out ?_;rintro e w1 ⟨rfl,hb⟩;have HP1:=hide (((((HPW.out.alloc (boxA c)).alloc (boxB d)).alloc (tokO (tkA c.l i))).drew).later hb)
  have HA1:=hide ((fst_ap c w d (tokO (tkA c.l i))).next (Ap.of hb));have HB1:=hide ((box2_new c w d (tokO (tkA c.l i)) hR).ap (Ap.of hb));have q0:=HB1.out.p.cell;have q1:=HB1.out.n.cell
  have HC2:=hide (rhead_any HF.out w1 d i r hd HS.out HO.out HP1.out);clear hb HX h0 h1 k0 k1 k2 k3;go_wp2_with fail;refine cm HC2.out ?_;intro e w2 hp
  cases r with
  | out=>exact absurd rfl HO.out
  | bad er pl=>
   obtain⟨⟨v,rfl,q,rfl⟩,hp2,he,ha⟩:=hp;have H2:=hide hp2;have H3:=hide (HA1.out.next ha);clear hp2 ha HC2;exact zcci
  | ok t j=>
   obtain⟨⟨v,rfl,q,rfl,hn⟩,hp2,ha⟩:=hp;have H1:Hid (NAt (fun b=>w.heap.size≤b) w2 t q):=NAt.mono (fun b hb _=>Nat.le_trans HA1.out.size hb) _ _ hn;have H2:=hide hp2;have H3:=hide (HA1.out.next ha)
   clear hn hp2 ha HC2;exact zccg
 ):G:=h
theorem zrqda.zrbkX {G:Prop}(h:G:=by
  have HC2:=hide (rskip_yes c w1 i tFunction (by decide) HFX.out HP1.out);go_wp2_with fail;refine cm HC2.out ?_;rintro e w2 ⟨rfl,hp2,ha2⟩;have HP2:=hide hp2;have HA2:=hide (HA1.out.next ha2)
  have HB2:=hide (HB1.out.ap ha2);have q0:=HB2.out.p.cell;have h0:=hp2.c0;have h1:=hp2.c1;obtain⟨k0,k1,k2,k3⟩:=hp2.toks;have hlt2:((i:Int)+1)<(c.l.length:Int):=by have:=hp2.lt;omega
  have hc1:(((i+1:Nat)):Int)=(i:Int)+1:=by omega
  rw[hc1] at h1;have q1:=HB2.out.n.cell;clear hp2 ha2 HC2 HP1 HA1 HB1 hc1
  by_cases hk:(tkA c.l (i+1)).kd=1
  ·have hin:isName c.l (i+1)=true:=by unfold isName;rw[hk];rfl
   have hnm:nameP c.l (i+1)=.ok (tkA c.l (i+1)).tx (i+2):=by unfold nameP;rw[if_pos hk]
   rw[hin,if_pos rfl,hnm,bind_ok] at HS;rw[hk] at k0;have HC3:=hide (rident_any c w2.drew (i+1) HP2.out.drew);rw[hnm] at HC3;clear hk hin hnm;go_wp2_with fail
   go_region
   go_wp2_with fail;refine cm HC3.out ?_;rintro e w3 ⟨⟨v,rfl,rfl⟩,hp3,ha3⟩;have HA3:=hide (HA2.out.drew.next ha3)
   have HB3:=hide ((⟨⟨HB2.out.p.blk,HB2.out.p.ne⟩,⟨HB2.out.n.blk,HB2.out.n.ne⟩⟩:Box2 c w.heap.size (w.heap.size+1) d w2.drew).ap ha3);have q2:=HB3.out.p.cell;have q3:=HB3.out.n.cell
   have HC5:=hide (rfunction_any HF.out HNX.out HKO.out w3 37 (tkA c.l (i+1)).tx d (i+2) r hd HS.out HO.out hp3);clear hp3 ha3 HC3 h0 h1 k0 k1 k2 k3 q0 q1;exact zbcq
  ·have hin:isName c.l (i+1)=false:=by unfold isName;exact beq_eq_false_iff_ne.2 hk
   have b1:((tkA c.l (i+1)).kd==1)=false:=beq_eq_false_iff_ne.2 hk;rw[hin,if_neg (by decide)] at HS
   have HC5:=hide (rfunction_any HF.out HNX.out HKO.out w2.drew 37 noText d (i+1) r hd HS.out HO.out HP2.out.drew);have HA3:=hide (HA2.out.drew);clear hk hin;go_wp2_with fail
   go_region
   exact zbcq
 ):G:=h
theorem zrqda.zrqX {G:Prop}(h:G:=by
  rw[decide_eq_false hnp] at hx;have HX:=hide hx;have HS:=hide hs;have HO:=hide ho;have HF:=hide hF;have HNX:=hide hN;have HKO:=hide hK;have HFX:=hide hf
  clear hx h hf hn1 hn3 hn4 hs ho hF hN hK hm hnp;exact zrbk
 ):G:=h
theorem zrqdb.zrbkX {G:Prop}(h:G:=by
  have HC2:=hide (rskip_no c w1 i tFunction (by decide) HNF.out HP1.out);go_wp2_with fail;refine cm HC2.out ?_;rintro e w2 ⟨rfl,hb2⟩;have HP2:=hide (HP1.out.later hb2);have HA2:=hide (HA1.out.next (Ap.of hb2))
  have HB2:=hide (HB1.out.ap (Ap.of hb2));have q1:=HB2.out.p.cell;have HC3:=hide (rskip_yes c w2 i tLBrace (by decide) HFX.out HP2.out);clear hb2 HC2 HP1 HA1 HB1 q0;go_wp2_with fail;refine cm HC3.out ?_
  rintro e w3 ⟨rfl,hp3,ha3⟩;have HA3:=hide (HA2.out.next ha3);have HB3:=hide (HB2.out.ap ha3);have q2:=HB3.out.p.cell;have hbl:=HB3.out.n.lt;have HP3:=hide hp3;clear hp3 ha3 HC3 HP2 HA2 HB2 q1
  cases hr:rlistLoop c.l tRBrace (propP c.l F d) F.fuel [] (i+1) with
  | out=>rw[hr] at HS;exact absurd HS.out HO.out
  | bad er pl=>
   have HC4:=hide (rlist_any (prop_part HF.out w.heap.size (w.heap.size+1) d hd) tRBrace (by decide) F.fuel w3 (i+1) _ hr.symm (by nofun) HB3.out (by omega) HP3.out);rw[hr] at HS
   have hq:r=.bad er pl:=unhide HS;subst hq;clear hr;go_wp2_with fail;refine cm HC4.out ?_;rintro e w4 ⟨⟨v,rfl,a,n,k,rfl⟩,⟨j,hp4⟩,he,ha4⟩;have H2:=hide hp4;have H3:=hide (HA3.out.next ha4)
   clear hp4 ha4 HC4;go_wp2_with fail;go_ret;exact⟨⟨_,rfl,_,rfl⟩,⟨j,H2.out.alloc _⟩,he,H3.out.alloc H3.out.size _⟩
  | ok ts j=>
   have HC4:=hide (rlist_any (prop_part HF.out w.heap.size (w.heap.size+1) d hd) tRBrace (by decide) F.fuel w3 (i+1) _ hr.symm (by nofun) HB3.out (by omega) HP3.out);rw[hr] at HS
   have hq:r=.ok (.mk 38 noText 0 ts) j:=unhide HS;subst hq;clear hr;go_wp2_with fail;refine cm HC4.out ?_;rintro e w4 ⟨⟨v,rfl,hkv⟩,hp4,ha4⟩;obtain⟨a,k,rfl⟩:=hkv.shape
   have H1:=hide (hkv.mono HA3.out.size);have H2:=hide hp4;have H3:=hide (HA3.out.next ha4);clear hp4 ha4 HC4 hkv;go_wp2_with fail;go_ret
   exact⟨⟨_,rfl,(EV.new H1.out H3.out.size 38 noText 0).nv⟩,H2.out.alloc _,H3.out.alloc H3.out.size _⟩
 ):G:=h
theorem zrqdb.zrqX {G:Prop}(h:G:=by
  rw[decide_eq_false hnp] at hx;have HX:=hide hx;have HS:=hide hs;have HO:=hide ho;have HF:=hide hF;have HFX:=hide hf;have HNF:=hide hnf;clear hx h hf hn1 hn3 hn4 hs ho hF hm hnp hnf;exact zrbk
 ):G:=h
theorem zrqdc.zrcdX {G:Prop}(h:G:=by
  generalize tkA c.l i=t at *
  go_wp2_with fail;go_ret;have hn:((i:Int)+1)=(((i+1:Nat)):Int):=by omega
  rw[hn];refine⟨⟨_,rfl,nv_leaf2 (by have:=HA3.out.size;simp;omega) _ noText 0 _ (by simp)⟩,?_,?_⟩
  ·exact((HP3.out.step hl).alloc _).alloc _
  ·exact((HA3.out.setCell (p:=⟨c.P,1,none⟩) (Or.inr rfl) _).alloc (by have:=HA3.out.size;simp;omega) _).alloc (by have:=HA3.out.size;simp;omega) _
 ):G:=h
theorem zrqdc.zrbkX {G:Prop}(h:G:=by
  exact zrcd
 ):G:=h
theorem zrqdc.zrqX {G:Prop}(h:G:=by
  exact zear
 ):G:=h
end Go.Proofs.YtoimgcjbcbhclaaGreatDoor
