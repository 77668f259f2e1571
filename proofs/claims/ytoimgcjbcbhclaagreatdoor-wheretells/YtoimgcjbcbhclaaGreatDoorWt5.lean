/-
  Parts of proofs that stand more than once.
-/
import Derived.Test.YtoimgcjbcbhclaaGreatDoorWt4
set_option maxRecDepth 100000
set_option maxHeartbeats 16000000
namespace Go.Proofs.YtoimgcjbcbhclaaGreatDoor
open Go.RowKit
theorem zrqbm.zrdgX {G:Prop}(h:G:=by
  clear hF hN hK;go_wp2_with fail
  go_loopw [3] (fun v wr=>∃ k t j p,v=nPtr p∧askedLoop c.l F d k t j=r∧Rdr c wr j d∧Ap c.R w.heap.size w wr∧NAt (From w.heap.size) wr t p) (fun _ wr=>c.l.length - nxt c wr)
  case atStart=>exact⟨F.fuel,x1,j1,p1,rfl,HS.out,HR1.out,HA1.out,HN1.out⟩
  case round=>
   obtain⟨k,t,j,p0,rfl,hq,hrd,hap,hnt⟩:=hrel;clear HS HR1 HA1 HN1
   cases k with
   | zero=>exact absurd hq.symm HO.out
   | succ k=>
    have HRr:=hide hrd;have HRM:=hide hrd;have HAr:=hide hap;have HNt:=hide hnt;have hjl:=hrd.lt;have hL:=unhide HL;unfold askedLoop at hq;have HS:=hide hq;have HC:=hide (fixed_any c wr j d hrd)
    clear hq hrd hap hnt
    by_cases hx:fx c.l j=tDot
    ·rw[if_pos hx] at HS;have bx:((fx c.l j).toList==[46])=true:=tl_eqL (b:=tDot) rfl hx;have hi:=fx_lt HE.out hjl hx (by decide);clear hx;go_wp2_with fail;refine cm HC.out ?_;rintro e wf ⟨rfl,hbf⟩
     clear HC;have HRf:=hide (HRr.out.later hbf);have HAf:=hide (HAr.out.next (Ap.of hbf));replace HNt:=hide (nat_later (c:=c) HNt.out (Ap.of hbf) HLT.out);clear hbf;have hc1:=HRf.out.c1
     have hcz:=HRf.out.fz;have hcl:=HRf.out.rlt;obtain⟨hsr,hsa⟩:=stepped HRf.out HAf.out hi;have HRs:=hide hsr;have HAs:=hide hsa
     replace HNt:=hide (nat_later (c:=c) HNt.out (Ap.setCell (R:=c.R) (Ap.refl _ _ _) (p:=⟨c.R,1,none⟩) (Or.inr rfl) (.int .i64 ((j:Int)+1))) HLT.out);clear hsr hsa HRf HAf
     cases hr:nameP c.l (j+1) with
     | out=>
      exact zbal
     | bad er p=>
      have HC:=hide (name_any c (wf.setCell ⟨c.R,1,none⟩ (.int .i64 ((j:Int)+1))) (j+1) d HRs.out);rw[hr] at HC HS;simp only[bind_bad] at HS;clear hr;go_wp2_with fail;refine cm HC.out ?_;intro e w' hp
      obtain⟨rfl,ha⟩:=hp;exact⟨rfl,ppBad HS.out.symm (HAs.out.next ha)⟩
     | ok x2 j2=>
      have hgt:=((nameP_nx (q:=True) HE.out hi).2 _ _ hr).1;have HC:=hide (name_any c (wf.setCell ⟨c.R,1,none⟩ (.int .i64 ((j:Int)+1))) (j+1) d HRs.out);rw[hr] at HC HS;simp only[bind_ok] at HS;clear hr
      go_wp2_with fail;refine cm HC.out ?_;intro e w2 hp;obtain⟨⟨v2,rfl,rfl⟩,hrd,ha⟩:=hp;clear HC;have HA2:=hide (HAs.out.next ha);have HR2:=hide hrd;replace HNt:=hide (nat_later HNt.out ha HLT.out)
      clear hrd ha HAs HRs;have hlt2:=HR2.out.lt;have HC:=hide (node_any 36 x2 (.slice (some ⟨w2.heap.size,0,none⟩) 1 1) (w2.alloc (.cells #[nPtr p0] 22)) ⟨_,_,_,rfl⟩);go_wp2_with fail;refine cm HC.out ?_
      rintro e wn ⟨rfl,rfl⟩;clear HC;obtain⟨m1,m2,m3⟩:=made HR2.out HA2.out (NAts.cons HNt.out NAts.nil) (by simp[maxLen]) #[nPtr p0] rfl 1 rfl 36 x2 (w2.heap.size+1) rfl;obtain⟨pm,hpm,hnm⟩:=m1.nv
      have hpe:pm=w2.heap.size+1:=by simpa[nPtr] using hpm.symm
      subst hpe;have HM1:=hide hnm;have HM2:=hide m2;have HM3:=hide m3;clear m1 m2 m3 hpm hnm;go_wp2_with fail
      go_roundw
      case rel=>exact⟨k,.mk 36 x2 0 [t],j2,w2.heap.size+1,by simp,HS.out,HM2.out,HM3.out,HM1.out⟩
      case measure=>rw[nxt_eq HM2.out,nxt_eq HRM.out];omega
    ·rw[if_neg hx] at HS;have bx:((fx c.l j).toList==[46])=false:=tl_neL (b:=tDot) rfl hx;clear hx
     by_cases hy:fx c.l j=tOpen
     ·rw[if_pos hy] at HS;have by1:((fx c.l j).toList==[40])=true:=tl_eqL (b:=tOpen) rfl hy;clear hy;go_wp2_with fail;refine cm HC.out ?_;rintro e wf ⟨rfl,hbf⟩;clear HC
      have HRf:=hide (HRr.out.later hbf);have HAf:=hide (HAr.out.next (Ap.of hbf));replace HNt:=hide (nat_later (c:=c) HNt.out (Ap.of hbf) HLT.out);clear hbf
      have HC:=hide (node_any 35 noText (.slice (some ⟨wf.heap.size,0,none⟩) 1 1) (wf.alloc (.cells #[nPtr p0] 22)) ⟨_,_,_,rfl⟩);go_wp2_with fail;refine cm HC.out ?_;rintro e wn0 ⟨rfl,rfl⟩;clear HC
      obtain⟨m1,m2,m3⟩:=made HRf.out HAf.out (NAts.cons HNt.out NAts.nil) (by simp[maxLen]) #[nPtr p0] rfl 1 rfl 35 noText (wf.heap.size+1) rfl;obtain⟨t0,ht0⟩:∃ t0:Tr,t0=.mk 35 noText 0 [t]:=⟨_,rfl⟩
      rw[←ht0] at m1;have HKL:Hid (t0.kids.length=1):=by
       show _=_
       rw[ht0];rfl
      have HT0:=hide ht0;obtain⟨pq,u0,ps0,hpe,hop⟩:=m1.opens;have hpe2:pq=wf.heap.size+1:=by simpa[nPtr] using hpe.symm
      rw[hpe2] at hop;have HOP:=hide hop;have HRn:=hide m2;have HAn:=hide m3;clear m1 m2 m3 hop hpe ht0
      obtain⟨wn,hwn⟩:∃ wn,wn=(wf.alloc (.cells #[nPtr p0] 22)).alloc (nodeObj 35 noText 0 (.slice (some ⟨wf.heap.size,0,none⟩) 1 1)):=⟨_,rfl⟩;rw[←hwn] at HOP HRn HAn;rw[←hpe2] at HOP
      rw[show (wf.alloc (.cells #[nPtr p0] 22)).heap.size=pq by rw[hpe2];simp,←hwn]
      clear hwn hpe2;obtain⟨hc3,hcf,hcl⟩:=HOP.out.cell;obtain⟨ua,uc,hue⟩:=HOP.out.shape;subst hue;obtain⟨kk,hkk⟩:=unhide HNX
      cases hr:listP c.l tOpen tShut (isVal c.l) (argP c.l F d) F.fuel j with
      | out=>
       exact zbal
      | bad er p=>
       have HC:=hide (list_any 312 313 (isVal c.l) (argP c.l F) tOpen tShut (atValue_any c) (arg_any HFC.out) en239 en240 (by decide) (by decide) (argP_go hkk) F.fuel wn.drew d j _ rfl (by rw[hr];nofun) HRn.out.drew)
       rw[hr] at HC HS;simp only[bind_bad] at HS;clear hr hkk;go_wp2_with fail;refine wp_region_any (by kernel_rfl) ?_;change wpAny _ _ _ _ _ _ _ (World.drew _);refine wt 0 (nPtr pq) ?_;refine wt 1 (nPtr pq) ?_
       refine wt 2 (nPtr pq) ?_;refine wt 3 (.pointer (some ⟨pq,3,none⟩)) ?_;refine wt 5 (rPtr c) ?_;refine wt 6 (rPtr c) ?_;refine wt 7 (.func (.func 312) #[rPtr c] #[]) ?_;refine wt 8 (rPtr c) ?_
       refine wt 9 (.func (.func 313) #[rPtr c] #[]) ?_;refine wr2 4 10 (fun K hK=>?_) fun K hK=>?_
       ·go_simp;refine hK _ _ ?_;clear hK K;refine wr1 10 fun K hK=>?_;exact zbdp
       ·exact zbdp
      | ok us j2=>
       have HC:=hide (list_any 312 313 (isVal c.l) (argP c.l F) tOpen tShut (atValue_any c) (arg_any HFC.out) en239 en240 (by decide) (by decide) (argP_go hkk) F.fuel wn.drew d j _ rfl (by rw[hr];nofun) HRn.out.drew)
       have hgt:=((listP_nx (q:=False) HE.out hjl (by decide) (by decide) (fun h=>h.elim) (fun j1 _ h1=>argP_nx hkk h1 (fun h=>h.elim))).2 _ _ hr).1;rw[hr] at HC HS;simp only[bind_ok] at HS;clear hr hkk
       go_wp2_with fail;refine wp_region_any (by kernel_rfl) ?_;change wpAny _ _ _ _ _ _ _ (World.drew _);refine wt 0 (nPtr pq) ?_;refine wt 1 (nPtr pq) ?_;refine wt 2 (nPtr pq) ?_
       refine wt 3 (.pointer (some ⟨pq,3,none⟩)) ?_;refine wt 5 (rPtr c) ?_;refine wt 6 (rPtr c) ?_;refine wt 7 (.func (.func 312) #[rPtr c] #[]) ?_;refine wt 8 (rPtr c) ?_
       refine wt 9 (.func (.func 313) #[rPtr c] #[]) ?_;refine wr2 4 10 (fun K hK=>?_) fun K hK=>?_
       ·go_simp;refine hK _ _ ?_;clear hK K;refine wr1 10 fun K hK=>?_;go_simp;refine cm HC.out ?_;intro e wc hp;obtain⟨⟨vc,rfl,hlv⟩,hrd,ha⟩:=hp;have HAc:=hide (HAn.out.drew.next ha)
        have HRc:=hide hrd;have hlt2:=hrd.lt;have HOc:=hide (Open.later HOP.out (((Ap.refl c.R wn.heap.size wn).drew).next ha) HLT.out);have HOA:=hide (((Ap.refl c.R wn.heap.size wn).drew).next ha)
        have HLV:=hide hlv;obtain⟨gc3,gcf,gcl⟩:=HOc.out.cell;clear hrd ha hlv;exact zbao
       ·go_simp;refine cm HC.out ?_;intro e wc hp;obtain⟨⟨vc,rfl,hlv⟩,hrd,ha⟩:=hp;have HAc:=hide (HAn.out.drew.next ha);have HRc:=hide hrd;have hlt2:=hrd.lt
        have HOc:=hide (Open.later HOP.out (((Ap.refl c.R wn.heap.size wn).drew).next ha) HLT.out);have HOA:=hide (((Ap.refl c.R wn.heap.size wn).drew).next ha);have HLV:=hide hlv
        obtain⟨gc3,gcf,gcl⟩:=HOc.out.cell;clear hrd ha hlv;refine hK _ _ ?_;clear hK K;refine wr1 4 fun K hK=>?_;go_simp;exact zbao
     ·rw[if_neg hy] at HS;have by1:((fx c.l j).toList==[40])=false:=tl_neL (b:=tOpen) rfl hy;clear hy;go_wp2_with fail;refine cm HC.out ?_;rintro e wf ⟨rfl,hbf⟩;clear HC
      have HRf:=hide (HRr.out.later hbf);have HAf:=hide (HAr.out.next (Ap.of hbf));replace HNt:=hide (nat_later (c:=c) HNt.out (Ap.of hbf) HLT.out);clear hbf;go_wp2_with fail;go_ret
      exact ppOk HS.out.symm ⟨p0,rfl,HNt.out⟩ HRf.out HAf.out
 ):G:=h
theorem zrqbn.zrcX {G:Prop}(h:G:=by
  clear hwn hpe2;have HC:=hide (take_not c tCatch wn i1 d HRn.out hc);go_wp2_with fail;refine cm HC.out ?_;rintro e wc ⟨rfl,hb⟩;clear HC;have HRc:=hide (HRn.out.later hb)
  have HAc:=hide (HAn.out.next (Ap.of hb));replace HOP:=hide (Open.later HOP.out (Ap.of hb) HLT.out);clear hb;have HC:=hide (take_not c tFinally wc i1 d HRc.out hf);go_wp2_with fail;refine cm HC.out ?_
  rintro e wf ⟨rfl,hb⟩;clear HC;have HRf:=hide (HRc.out.later hb);have HAf:=hide (HAc.out.next (Ap.of hb));replace HOP:=hide (Open.later HOP.out (Ap.of hb) HLT.out);clear hb
  obtain⟨hc3,hcf,hcl⟩:=HOP.out.cell;obtain⟨ua,uc,hue⟩:=HOP.out.shape;subst hue;rw[HKL.out] at hc3;have HC:=hide (fault_any c 3 wf i1 d HRf.out);go_wp2_with fail;refine cm HC.out ?_
  rintro e w9 ⟨rfl,hb9⟩;exact⟨rfl,ppBad rfl (HAf.out.next (Ap.of hb9))⟩
 ):G:=h
theorem zrqbo.zrcjX {G:Prop}(h:G:=by
  refine wt 5 (rPtr c) ?_;refine wr2 4 6 (fun K hK=>?_) fun K hK=>?_
  ·go_simp;refine hK _ _ ?_;clear hK K;refine wr1 6 fun K hK=>?_;go_simp;refine cm HCF.out ?_;intro e wc hp;obtain⟨⟨vc,rfl,hnc⟩,hrd,ha⟩:=hp;obtain⟨pc,rfl,hmc⟩:=hnc.nv
   have ha0:=((Ap.refl c.R wf.heap.size wf).drew).next ha;have HY:Hid (Ap c.R wf.heap.size wf wc∧Rdr c wc i2 d∧NAt (From wf.heap.size) wc b2 pc):=⟨ha0,hrd,hmc⟩;exact zcat
  ·go_simp;refine cm HCF.out ?_;intro e wc hp;obtain⟨⟨vc,rfl,hnc⟩,hrd,ha⟩:=hp;obtain⟨pc,rfl,hmc⟩:=hnc.nv;have ha0:=((Ap.refl c.R wf.heap.size wf).drew).next ha
   have HY:Hid (Ap c.R wf.heap.size wf wc∧Rdr c wc i2 d∧NAt (From wf.heap.size) wc b2 pc):=⟨ha0,hrd,hmc⟩;exact zcac
 ):G:=h
theorem zrqbo.zrcpX {G:Prop}(h:G:=by
  refine via2 (H:=fun wc pc=>Ap c.R wf.heap.size wf wc∧Rdr c wc i2 d∧NAt (From wf.heap.size) wc b2 pc) (G:=?G1) (fun CONT=>?_) ?_;rotate_left
  ·exact zrcj
  intro wc pc hY;obtain⟨ha0,hrd,hmc⟩:=hY;have HAc:=hide (HAf.out.next ha0);have HA0c:=hide ha0;have HRc:=hide hrd;have HOc:=hide (Open.later HOP.out ha0 HLT.out);have HNc:=hide hmc
  obtain⟨gc3,gcf,gcl⟩:=HOc.out.cell;have gcl1:p0<wc.heap.size+1:=by omega
  have gcl2:p0<wc.heap.size+1+1:=by omega
  clear hrd ha0 hmc;obtain⟨n1,n2,n3⟩:=made (w:=wf) HRc.out HA0c.out (NAts.cons HNc.out NAts.nil) (by simp[maxLen]) #[nPtr pc] rfl 1 rfl 14 noText (wc.heap.size+1) rfl
  have hbd:Below wc.heap.size wc ((wc.alloc (.cells #[nPtr pc] 22)).alloc (nodeObj 14 noText 0 (.slice (some ⟨wc.heap.size,0,none⟩) 1 1))):=((Below.refl _ _).alloc (Nat.le_refl _) _).alloc (by simp) _
  obtain⟨wd,hwd⟩:∃ wd,wd=(wc.alloc (.cells #[nPtr pc] 22)).alloc (nodeObj 14 noText 0 (.slice (some ⟨wc.heap.size,0,none⟩) 1 1)):=⟨_,rfl⟩
  have hq:(wc.alloc (.cells #[nPtr pc] 22)).heap.size=wc.heap.size+1:=by simp
  obtain⟨q,hqq⟩:∃ q,q=wc.heap.size+1:=⟨_,rfl⟩;obtain⟨pq,hpq,hnq⟩:=n1.nv;have hpe:pq=wc.heap.size+1:=by simpa[nPtr] using hpq.symm
  subst hpe;have hws:wd.heap.size=q+1:=by rw[hwd,hqq];simp
  rw[←hwd] at hnq n2 n3 hbd
  try rw[hq]
  rw[←hqq] at hnq
  try rw[←hqq]
  try rw[←hwd]
  have HOd:=hide (Open.later HOc.out (Ap.of hbd) HLT.out);have HAd:=hide (HAc.out.next (Ap.of hbd));have HRd:=hide n2;have HNd:=hide (Open.apart HOP.out HAf.out.size n3 HLT.out (NAts.cons hnq NAts.nil))
  obtain⟨ec3,ecf,ecl⟩:=HOd.out.cell;clear n1 n2 n3 hbd hnq hpq hwd hqq hq gc3 gcf gcl gcl1 gcl2;have hlen:=NAts.length _ _ HOd.out.kids;have hown:=HOd.out.row;rw[hlen] at hown;have HOWN:=hide hown
  have hsz:=HAd.out.size;have hkl:t0.kids.length≤3:=by rw[HKL.out];decide
  clear hown hlen;refine wr1 10 fun K hK=>?_
  refine step_append_lies _ rfl _ _ 46 rfl w.heap.size 22 i0' (.pointer none) 1 8 Tryz.underlying46 hi0 hz0 hz1 hz2 rfl (by decide) _ _ _ rfl (HOWN.out.alloc _) ⟨q+1,0,none⟩ 1 1 [nPtr q] rfl rfl (one_cells wd q _ hws) (one_one q) (by decide) (by unfold maxLen;omega) (by omega) (by simp;omega) (wd.heap.size+1) (by simp) ?_
  clear hws;intro g cap w3 hown3 hgr3 hg3 _;refine hK _ _ ?_;clear hK K;have HP1:=hide (push1 HOd.out HNd.out HRd.out HAd.out HLO.out hown3 hgr3 hg3)
  have hp3:w3.cell? ⟨p0,3,none⟩=wd.cell? ⟨p0,3,none⟩∧w3.frozen? ⟨p0,3,none⟩=wd.frozen? ⟨p0,3,none⟩:=by
   exact zbce
  obtain⟨hp3c,hp3f⟩:=hp3;rw[ec3] at hp3c;rw[ecf 3] at hp3f;clear hown3 hgr3 hg3;refine wt 11 (nPtr p0) ?_;refine wt 12 (.pointer (some ⟨p0,3,none⟩)) ?_;refine wr1 13 fun K hK=>?_;go_simp;refine hK _ _ ?_
  clear hK K hp3c hp3f ec3 ecf ecl HOWN;refine wpAny_done (by kernel_rfl) ?_ _;go_simp;obtain⟨m1,m2,m3⟩:=unhide HP1
  obtain⟨t0x,ht2⟩:∃ tq:Tr,tq=.mk t0.kd t0.tx t0.n (t0.kids++[.mk 14 noText 0 [b2]]):=⟨_,rfl⟩;rw[←ht2] at m1;have HKLt0x:Hid (t0x.kids.length=t0.kids.length+1):=by
   show _=_
   rw[ht2];simp[Tr.kids]
  have HTt0x:=hide ht2;obtain⟨pz,uz,psz,hpz,hopz⟩:=m1.opens;have hpz2:pz=p0:=by simpa[nPtr] using hpz.symm
  rw[hpz2] at hopz;obtain⟨w4,hw4⟩:∃ w4,w4=(w3.setCell ⟨p0,3,none⟩ (.slice (some ⟨g,0,none⟩) (t0.kids.length+1) cap)):=⟨_,rfl⟩;rw[←hw4] at hopz m2 m3;rw[←hw4];clear HOP;have HOP:=hide hopz
  have HR4F:=hide m2;have HA4F:=hide m3;clear m1 m2 m3 hopz hpz hw4 hpz2 ht2 HP1 HCF;obtain⟨hc3,hcf,hcl⟩:=HOP.out.cell;obtain⟨ua,uc,hue⟩:=HOP.out.shape;subst hue
  have hk2:t0x.kids.length=2:=by rw[HKLt0x.out,HKL.out]
  rw[hk2] at hc3;clear hk2;go_wp2_with fail;go_ret;have e0:=unhide HT0;have e1:=unhide HTt0x;have hnv:=HOP.out.ev.nv;rw[e1,e0] at hnv;exact ppOk rfl hnv HR4F.out HA4F.out
 ):G:=h
theorem zrqbo.zrcX {G:Prop}(h:G:=by
  exact zrcp
 ):G:=h
theorem zrqbp.zrcjX {G:Prop}(h:G:=by
  refine wt 5 (rPtr c) ?_;refine wr2 4 6 (fun K hK=>?_) fun K hK=>?_
  ·go_simp;refine hK _ _ ?_;clear hK K;refine wr1 6 fun K hK=>?_;exact zbhg
  ·exact zbhg
 ):G:=h
theorem zrqbp.zrcpX {G:Prop}(h:G:=by
  exact zrcj
 ):G:=h
theorem zrqbp.zrcX {G:Prop}(h:G:=by
  exact zrcp
 ):G:=h
theorem zrqbq.zrcjX {G:Prop}(h:G:=by
  refine wt 5 (.string s) ?_;refine wt 6 (rPtr c) ?_;refine wr2 4 7 (fun K hK=>?_) fun K hK=>?_
  ·go_simp;refine hK _ _ ?_;clear hK K;refine wr1 7 fun K hK=>?_;exact zbhc
  ·exact zbhc
 ):G:=h
theorem zrqbq.zrcX {G:Prop}(h:G:=by
  clear hwn hpe2;have HC:=hide (take_yes c tCatch wn i1 d HRn.out hc (by decide));go_wp2_with fail;refine cm HC.out ?_;rintro e wc ⟨rfl,hrd,ha⟩;clear HC;have HRc:=hide hrd;have HAc:=hide (HAn.out.next ha)
  replace HOP:=hide (Open.later HOP.out (ha) HLT.out);clear hrd ha;have HC:=hide (must_any c tOpen wc (i1+1) d HRc.out (by decide))
  rcases HQ.out with h2|⟨i2,h2,hq⟩
  ·rw[h2] at HC;go_wp2_with fail;refine cm HC.out ?_;intro e w' hp;obtain⟨rfl,ha⟩:=hp;exact⟨rfl,ppBad rfl (HAc.out.next ha)⟩
  clear HQ;have HQ:=hide hq;clear hq;rw[h2] at HC;go_wp2_with fail;refine cm HC.out ?_;intro e wd hp;obtain⟨⟨vd,rfl,rfl⟩,hrd,ha⟩:=hp;clear HC;have HRd:=hide hrd;have HAd:=hide (HAc.out.next ha)
  replace HOP:=hide (Open.later HOP.out (ha) HLT.out);clear hrd ha;have HC:=hide (name_any c wd i2 d HRd.out)
  rcases HQ.out with h3|⟨s,i3,h3,hq⟩
  ·rw[h3] at HC;go_wp2_with fail;refine cm HC.out ?_;intro e w' hp;obtain⟨rfl,ha⟩:=hp;exact⟨rfl,ppBad rfl (HAd.out.next ha)⟩
  clear HQ;have HQ:=hide hq;clear hq;rw[h3] at HC;go_wp2_with fail;refine cm HC.out ?_;intro e we hp;obtain⟨⟨ve,rfl,rfl⟩,hrd,ha⟩:=hp;clear HC;have HRe:=hide hrd;have HAe:=hide (HAd.out.next ha)
  replace HOP:=hide (Open.later HOP.out (ha) HLT.out);clear hrd ha;have HC:=hide (must_any c tShut we i3 d HRe.out (by decide))
  rcases HQ.out with h4|⟨i4,h4,h5⟩
  ·rw[h4] at HC;go_wp2_with fail;refine cm HC.out ?_;intro e w' hp;obtain⟨rfl,ha⟩:=hp;exact⟨rfl,ppBad rfl (HAe.out.next ha)⟩
  clear HQ;rw[h4] at HC;go_wp2_with fail;refine cm HC.out ?_;intro e wg1 hp;obtain⟨⟨vg1,rfl,rfl⟩,hrd,ha⟩:=hp;clear HC;have HRg1:=hide hrd;have HAg1:=hide (HAe.out.next ha)
  replace HOP:=hide (Open.later HOP.out (ha) HLT.out);clear hrd ha;have HCC:=hide (block_any hF hN wg1.drew d i4 _ rfl (by rw[h5];nofun) HRg1.out.drew)
  rw[h5] at HCC;obtain⟨hc3,hcf,hcl⟩:=HOP.out.cell;obtain⟨ua,uc,hue⟩:=HOP.out.shape;subst hue;go_wp2_with fail;exact zrcj
 ):G:=h
theorem zrqbr.zrbeX {G:Prop}(h:G:=by
  obtain⟨ua,uc,hue⟩:=HOP.out.shape;subst hue;go_wp2_with fail;refine via2 (H:=fun wc pc=>Ap c.R wg1.heap.size wg1 wc∧Rdr c wc i5 d∧NAt (From wg1.heap.size) wc b2 pc) (G:=?G2) (fun CONT=>?_) ?_
  rotate_left
  ·exact zbab
  intro wc pc hY;obtain⟨ha0,hrd,hmc⟩:=hY;have HAc:=hide (HAg1.out.next ha0);have HA0c:=hide ha0;have HRc:=hide hrd;have HOc:=hide (Open.later HOP.out ha0 HLT.out);have HNc:=hide hmc
  obtain⟨gc3,gcf,gcl⟩:=HOc.out.cell;have gcl1:p0<wc.heap.size+1:=by omega
  have gcl2:p0<wc.heap.size+1+1:=by omega
  clear hrd ha0 hmc;obtain⟨n1,n2,n3⟩:=made (w:=wg1) HRc.out HA0c.out (NAts.cons HNc.out NAts.nil) (by simp[maxLen]) #[nPtr pc] rfl 1 rfl 13 s (wc.heap.size+1) rfl
  have hbd:Below wc.heap.size wc ((wc.alloc (.cells #[nPtr pc] 22)).alloc (nodeObj 13 s 0 (.slice (some ⟨wc.heap.size,0,none⟩) 1 1))):=((Below.refl _ _).alloc (Nat.le_refl _) _).alloc (by simp) _
  obtain⟨wd,hwd⟩:∃ wd,wd=(wc.alloc (.cells #[nPtr pc] 22)).alloc (nodeObj 13 s 0 (.slice (some ⟨wc.heap.size,0,none⟩) 1 1)):=⟨_,rfl⟩
  have hq:(wc.alloc (.cells #[nPtr pc] 22)).heap.size=wc.heap.size+1:=by simp
  obtain⟨q,hqq⟩:∃ q,q=wc.heap.size+1:=⟨_,rfl⟩;obtain⟨pq,hpq,hnq⟩:=n1.nv;have hpe:pq=wc.heap.size+1:=by simpa[nPtr] using hpq.symm
  subst hpe;have hws:wd.heap.size=q+1:=by rw[hwd,hqq];simp
  rw[←hwd] at hnq n2 n3 hbd
  try rw[hq]
  rw[←hqq] at hnq
  try rw[←hqq]
  try rw[←hwd]
  have HOd:=hide (Open.later HOc.out (Ap.of hbd) HLT.out);have HAd:=hide (HAc.out.next (Ap.of hbd));have HRd:=hide n2;have HNd:=hide (Open.apart HOP.out HAg1.out.size n3 HLT.out (NAts.cons hnq NAts.nil))
  obtain⟨ec3,ecf,ecl⟩:=HOd.out.cell;clear n1 n2 n3 hbd hnq hpq hwd hqq hq gc3 gcf gcl gcl1 gcl2;have hlen:=NAts.length _ _ HOd.out.kids;have hown:=HOd.out.row;rw[hlen] at hown;have HOWN:=hide hown
  have hsz:=HAd.out.size;have hkl:t0.kids.length≤3:=by rw[HKL.out];decide
  clear hown hlen;refine wr1 11 fun K hK=>?_
  refine step_append_lies _ rfl _ _ 46 rfl w.heap.size 22 i0' (.pointer none) 1 8 Tryz.underlying46 hi0 hz0 hz1 hz2 rfl (by decide) _ _ _ rfl (HOWN.out.alloc _) ⟨q+1,0,none⟩ 1 1 [nPtr q] rfl rfl (one_cells wd q _ hws) (one_one q) (by decide) (by unfold maxLen;omega) (by omega) (by simp;omega) (wd.heap.size+1) (by simp) ?_
  clear hws;intro g cap w3 hown3 hgr3 hg3 _;refine hK _ _ ?_;clear hK K;have HP1:=hide (push1 HOd.out HNd.out HRd.out HAd.out HLO.out hown3 hgr3 hg3)
  have hp3:w3.cell? ⟨p0,3,none⟩=wd.cell? ⟨p0,3,none⟩∧w3.frozen? ⟨p0,3,none⟩=wd.frozen? ⟨p0,3,none⟩:=by
   exact zbce
  obtain⟨hp3c,hp3f⟩:=hp3;rw[ec3] at hp3c;rw[ecf 3] at hp3f;clear hown3 hgr3 hg3;refine wt 12 (nPtr p0) ?_;refine wt 13 (.pointer (some ⟨p0,3,none⟩)) ?_;refine wr1 14 fun K hK=>?_;go_simp;refine hK _ _ ?_
  clear hK K hp3c hp3f ec3 ecf ecl HOWN;refine wpAny_done (by kernel_rfl) ?_ _;go_simp;obtain⟨m1,m2,m3⟩:=unhide HP1
  obtain⟨t0x,ht2⟩:∃ tq:Tr,tq=.mk t0.kd t0.tx t0.n (t0.kids++[.mk 13 s 0 [b2]]):=⟨_,rfl⟩;rw[←ht2] at m1;have HKLt0x:Hid (t0x.kids.length=t0.kids.length+1):=by
   show _=_
   rw[ht2];simp[Tr.kids]
  have HTt0x:=hide ht2;obtain⟨pz,uz,psz,hpz,hopz⟩:=m1.opens;have hpz2:pz=p0:=by simpa[nPtr] using hpz.symm
  rw[hpz2] at hopz;obtain⟨w4,hw4⟩:∃ w4,w4=(w3.setCell ⟨p0,3,none⟩ (.slice (some ⟨g,0,none⟩) (t0.kids.length+1) cap)):=⟨_,rfl⟩;rw[←hw4] at hopz m2 m3;rw[←hw4];clear HOP;have HOP:=hide hopz
  have HR4C:=hide m2;have HA4C:=hide m3;clear m1 m2 m3 hopz hpz hw4 hpz2 ht2 HP1 HCC;have HC:=hide (take_not c tFinally w4 i5 d HR4C.out hf);go_wp2_with fail;refine cm HC.out ?_;rintro e wz ⟨rfl,hb⟩;clear HC
  have HRz:=hide (HR4C.out.later hb);have HAz:=hide (HA4C.out.next (Ap.of hb));replace HOP:=hide (Open.later HOP.out (Ap.of hb) HLT.out);clear hb;obtain⟨hc3,hcf,hcl⟩:=HOP.out.cell
  obtain⟨ua,uc,hue⟩:=HOP.out.shape;subst hue;have hk2:t0x.kids.length=2:=by rw[HKLt0x.out,HKL.out]
  rw[hk2] at hc3;clear hk2;go_wp2_with fail;go_ret;have e0:=unhide HT0;have e1:=unhide HTt0x;have hnv:=HOP.out.ev.nv;rw[e1,e0] at hnv;exact ppOk rfl hnv HRz.out HAz.out
 ):G:=h
theorem zrqbr.zrcX {G:Prop}(h:G:=by
  clear hwn hpe2;exact zrbe
 ):G:=h
theorem zrqbs.zrcjX {G:Prop}(h:G:=by
  refine wt 5 (rPtr c) ?_;refine wr2 4 6 (fun K hK=>?_) fun K hK=>?_
  ·go_simp;refine hK _ _ ?_;clear hK K;refine wr1 6 fun K hK=>?_;go_simp;refine cm HCF.out ?_;intro e wc hp;obtain⟨⟨vc,rfl,hnc⟩,hrd,ha⟩:=hp;obtain⟨pc,rfl,hmc⟩:=hnc.nv
   have ha0:=((Ap.refl c.R wz.heap.size wz).drew).next ha;have HY:Hid (Ap c.R wz.heap.size wz wc∧Rdr c wc i6 d∧NAt (From wz.heap.size) wc b3 pc):=⟨ha0,hrd,hmc⟩;exact zcat
  ·go_simp;refine cm HCF.out ?_;intro e wc hp;obtain⟨⟨vc,rfl,hnc⟩,hrd,ha⟩:=hp;obtain⟨pc,rfl,hmc⟩:=hnc.nv;have ha0:=((Ap.refl c.R wz.heap.size wz).drew).next ha
   have HY:Hid (Ap c.R wz.heap.size wz wc∧Rdr c wc i6 d∧NAt (From wz.heap.size) wc b3 pc):=⟨ha0,hrd,hmc⟩;exact zcac
 ):G:=h
theorem zrqbs.zrbeX {G:Prop}(h:G:=by
  obtain⟨ua,uc,hue⟩:=HOP.out.shape;subst hue;go_wp2_with fail;refine via2 (H:=fun wc pc=>Ap c.R wg1.heap.size wg1 wc∧Rdr c wc i5 d∧NAt (From wg1.heap.size) wc b2 pc) (G:=?G3) (fun CONT=>?_) ?_
  rotate_left
  ·exact zbab
  intro wc pc hY;obtain⟨ha0,hrd,hmc⟩:=hY;have HAc:=hide (HAg1.out.next ha0);have HA0c:=hide ha0;have HRc:=hide hrd;have HOc:=hide (Open.later HOP.out ha0 HLT.out);have HNc:=hide hmc
  obtain⟨gc3,gcf,gcl⟩:=HOc.out.cell;have gcl1:p0<wc.heap.size+1:=by omega
  have gcl2:p0<wc.heap.size+1+1:=by omega
  clear hrd ha0 hmc;obtain⟨n1,n2,n3⟩:=made (w:=wg1) HRc.out HA0c.out (NAts.cons HNc.out NAts.nil) (by simp[maxLen]) #[nPtr pc] rfl 1 rfl 13 s (wc.heap.size+1) rfl
  have hbd:Below wc.heap.size wc ((wc.alloc (.cells #[nPtr pc] 22)).alloc (nodeObj 13 s 0 (.slice (some ⟨wc.heap.size,0,none⟩) 1 1))):=((Below.refl _ _).alloc (Nat.le_refl _) _).alloc (by simp) _
  obtain⟨wd,hwd⟩:∃ wd,wd=(wc.alloc (.cells #[nPtr pc] 22)).alloc (nodeObj 13 s 0 (.slice (some ⟨wc.heap.size,0,none⟩) 1 1)):=⟨_,rfl⟩
  have hq:(wc.alloc (.cells #[nPtr pc] 22)).heap.size=wc.heap.size+1:=by simp
  obtain⟨q,hqq⟩:∃ q,q=wc.heap.size+1:=⟨_,rfl⟩;obtain⟨pq,hpq,hnq⟩:=n1.nv;have hpe:pq=wc.heap.size+1:=by simpa[nPtr] using hpq.symm
  subst hpe;have hws:wd.heap.size=q+1:=by rw[hwd,hqq];simp
  rw[←hwd] at hnq n2 n3 hbd
  try rw[hq]
  rw[←hqq] at hnq
  try rw[←hqq]
  try rw[←hwd]
  have HOd:=hide (Open.later HOc.out (Ap.of hbd) HLT.out);have HAd:=hide (HAc.out.next (Ap.of hbd));have HRd:=hide n2;have HNd:=hide (Open.apart HOP.out HAg1.out.size n3 HLT.out (NAts.cons hnq NAts.nil))
  obtain⟨ec3,ecf,ecl⟩:=HOd.out.cell;clear n1 n2 n3 hbd hnq hpq hwd hqq hq gc3 gcf gcl gcl1 gcl2;have hlen:=NAts.length _ _ HOd.out.kids;have hown:=HOd.out.row;rw[hlen] at hown;have HOWN:=hide hown
  have hsz:=HAd.out.size;have hkl:t0.kids.length≤3:=by rw[HKL.out];decide
  clear hown hlen;refine wr1 11 fun K hK=>?_
  refine step_append_lies _ rfl _ _ 46 rfl w.heap.size 22 i0' (.pointer none) 1 8 Tryz.underlying46 hi0 hz0 hz1 hz2 rfl (by decide) _ _ _ rfl (HOWN.out.alloc _) ⟨q+1,0,none⟩ 1 1 [nPtr q] rfl rfl (one_cells wd q _ hws) (one_one q) (by decide) (by unfold maxLen;omega) (by omega) (by simp;omega) (wd.heap.size+1) (by simp) ?_
  clear hws;intro g cap w3 hown3 hgr3 hg3 _;refine hK _ _ ?_;clear hK K;have HP1:=hide (push1 HOd.out HNd.out HRd.out HAd.out HLO.out hown3 hgr3 hg3)
  have hp3:w3.cell? ⟨p0,3,none⟩=wd.cell? ⟨p0,3,none⟩∧w3.frozen? ⟨p0,3,none⟩=wd.frozen? ⟨p0,3,none⟩:=by
   exact zbce
  obtain⟨hp3c,hp3f⟩:=hp3;rw[ec3] at hp3c;rw[ecf 3] at hp3f;clear hown3 hgr3 hg3;refine wt 12 (nPtr p0) ?_;refine wt 13 (.pointer (some ⟨p0,3,none⟩)) ?_;refine wr1 14 fun K hK=>?_;go_simp;refine hK _ _ ?_
  clear hK K hp3c hp3f ec3 ecf ecl HOWN;refine wpAny_done (by kernel_rfl) ?_ _;go_simp;obtain⟨m1,m2,m3⟩:=unhide HP1
  obtain⟨t0x,ht2⟩:∃ tq:Tr,tq=.mk t0.kd t0.tx t0.n (t0.kids++[.mk 13 s 0 [b2]]):=⟨_,rfl⟩;rw[←ht2] at m1;have HKLt0x:Hid (t0x.kids.length=t0.kids.length+1):=by
   show _=_
   rw[ht2];simp[Tr.kids]
  have HTt0x:=hide ht2;obtain⟨pz,uz,psz,hpz,hopz⟩:=m1.opens;have hpz2:pz=p0:=by simpa[nPtr] using hpz.symm
  rw[hpz2] at hopz;obtain⟨w4,hw4⟩:∃ w4,w4=(w3.setCell ⟨p0,3,none⟩ (.slice (some ⟨g,0,none⟩) (t0.kids.length+1) cap)):=⟨_,rfl⟩;rw[←hw4] at hopz m2 m3;rw[←hw4];clear HOP;have HOP:=hide hopz
  have HR4C:=hide m2;have HA4C:=hide m3;clear m1 m2 m3 hopz hpz hw4 hpz2 ht2 HP1 HCC;have HC:=hide (take_yes c tFinally w4 i5 d HR4C.out hf (by decide));go_wp2_with fail;refine cm HC.out ?_
  rintro e wz ⟨rfl,hrd,ha⟩;clear HC;have HRz:=hide hrd;have HAz:=hide (HA4C.out.next ha);replace HOP:=hide (Open.later HOP.out (ha) HLT.out);clear hrd ha;have HKL2:Hid (t0x.kids.length=2):=by
   show _=_
   rw[HKLt0x.out,HKL.out]
  have HCF:=hide (block_any hF hN wz.drew d (i5+1) _ rfl (by rw[h6];nofun) HRz.out.drew)
  rw[h6] at HCF;obtain⟨hc3,hcf,hcl⟩:=HOP.out.cell;obtain⟨ua,uc,hue⟩:=HOP.out.shape;subst hue;go_wp2_with fail
  refine via2 (H:=fun wc pc=>Ap c.R wz.heap.size wz wc∧Rdr c wc i6 d∧NAt (From wz.heap.size) wc b3 pc) (G:=?G4) (fun CONT=>?_) ?_;rotate_left
  ·exact zrcj
  intro wc pc hY;obtain⟨ha0,hrd,hmc⟩:=hY;have HAc:=hide (HAz.out.next ha0);have HA0c:=hide ha0;have HRc:=hide hrd;have HOc:=hide (Open.later HOP.out ha0 HLT.out);have HNc:=hide hmc
  obtain⟨gc3,gcf,gcl⟩:=HOc.out.cell;have gcl1:p0<wc.heap.size+1:=by omega
  have gcl2:p0<wc.heap.size+1+1:=by omega
  clear hrd ha0 hmc;obtain⟨n1,n2,n3⟩:=made (w:=wz) HRc.out HA0c.out (NAts.cons HNc.out NAts.nil) (by simp[maxLen]) #[nPtr pc] rfl 1 rfl 14 noText (wc.heap.size+1) rfl
  have hbd:Below wc.heap.size wc ((wc.alloc (.cells #[nPtr pc] 22)).alloc (nodeObj 14 noText 0 (.slice (some ⟨wc.heap.size,0,none⟩) 1 1))):=((Below.refl _ _).alloc (Nat.le_refl _) _).alloc (by simp) _
  obtain⟨wd,hwd⟩:∃ wd,wd=(wc.alloc (.cells #[nPtr pc] 22)).alloc (nodeObj 14 noText 0 (.slice (some ⟨wc.heap.size,0,none⟩) 1 1)):=⟨_,rfl⟩
  have hq:(wc.alloc (.cells #[nPtr pc] 22)).heap.size=wc.heap.size+1:=by simp
  obtain⟨q,hqq⟩:∃ q,q=wc.heap.size+1:=⟨_,rfl⟩;obtain⟨pq,hpq,hnq⟩:=n1.nv;have hpe:pq=wc.heap.size+1:=by simpa[nPtr] using hpq.symm
  subst hpe;have hws:wd.heap.size=q+1:=by rw[hwd,hqq];simp
  rw[←hwd] at hnq n2 n3 hbd
  try rw[hq]
  rw[←hqq] at hnq
  try rw[←hqq]
  try rw[←hwd]
  have HOd:=hide (Open.later HOc.out (Ap.of hbd) HLT.out);have HAd:=hide (HAc.out.next (Ap.of hbd));have HRd:=hide n2;have HNd:=hide (Open.apart HOP.out HAz.out.size n3 HLT.out (NAts.cons hnq NAts.nil))
  obtain⟨ec3,ecf,ecl⟩:=HOd.out.cell;clear n1 n2 n3 hbd hnq hpq hwd hqq hq gc3 gcf gcl gcl1 gcl2;have hlen:=NAts.length _ _ HOd.out.kids;have hown:=HOd.out.row;rw[hlen] at hown;have HOWN:=hide hown
  have hsz:=HAd.out.size;have hkl:t0x.kids.length≤3:=by rw[HKL2.out];decide
  clear hown hlen;refine wr1 10 fun K hK=>?_
  refine step_append_lies _ rfl _ _ 46 rfl w.heap.size 22 i0' (.pointer none) 1 8 Tryz.underlying46 hi0 hz0 hz1 hz2 rfl (by decide) _ _ _ rfl (HOWN.out.alloc _) ⟨q+1,0,none⟩ 1 1 [nPtr q] rfl rfl (one_cells wd q _ hws) (one_one q) (by decide) (by unfold maxLen;omega) (by omega) (by simp;omega) (wd.heap.size+1) (by simp) ?_
  clear hws;intro g cap w3 hown3 hgr3 hg3 _;refine hK _ _ ?_;clear hK K;have HP1:=hide (push1 HOd.out HNd.out HRd.out HAd.out HLO.out hown3 hgr3 hg3)
  have hp3:w3.cell? ⟨p0,3,none⟩=wd.cell? ⟨p0,3,none⟩∧w3.frozen? ⟨p0,3,none⟩=wd.frozen? ⟨p0,3,none⟩:=by
   exact zbce
  obtain⟨hp3c,hp3f⟩:=hp3;rw[ec3] at hp3c;rw[ecf 3] at hp3f;clear hown3 hgr3 hg3;refine wt 11 (nPtr p0) ?_;refine wt 12 (.pointer (some ⟨p0,3,none⟩)) ?_;refine wr1 13 fun K hK=>?_;go_simp;refine hK _ _ ?_
  clear hK K hp3c hp3f ec3 ecf ecl HOWN;refine wpAny_done (by kernel_rfl) ?_ _;go_simp;obtain⟨m1,m2,m3⟩:=unhide HP1
  obtain⟨t0xx,ht2⟩:∃ tq:Tr,tq=.mk t0x.kd t0x.tx t0x.n (t0x.kids++[.mk 14 noText 0 [b3]]):=⟨_,rfl⟩;rw[←ht2] at m1;have HKLt0xx:Hid (t0xx.kids.length=t0x.kids.length+1):=by
   show _=_
   rw[ht2];simp[Tr.kids]
  have HTt0xx:=hide ht2;obtain⟨pz,uz,psz,hpz,hopz⟩:=m1.opens;have hpz2:pz=p0:=by simpa[nPtr] using hpz.symm
  rw[hpz2] at hopz;obtain⟨w4,hw4⟩:∃ w4,w4=(w3.setCell ⟨p0,3,none⟩ (.slice (some ⟨g,0,none⟩) (t0x.kids.length+1) cap)):=⟨_,rfl⟩;rw[←hw4] at hopz m2 m3;rw[←hw4];clear HOP;have HOP:=hide hopz
  have HR4F:=hide m2;have HA4F:=hide m3;clear m1 m2 m3 hopz hpz hw4 hpz2 ht2 HP1 HCF;obtain⟨hc3,hcf,hcl⟩:=HOP.out.cell;obtain⟨ua,uc,hue⟩:=HOP.out.shape;subst hue
  have hk2:t0xx.kids.length=3:=by rw[HKLt0xx.out,HKLt0x.out,HKL.out]
  rw[hk2] at hc3;clear hk2;go_wp2_with fail;go_ret;have e0:=unhide HT0;have e1:=unhide HTt0x;have e2:=unhide HTt0xx;have hnv:=HOP.out.ev.nv;rw[e2,e1,e0] at hnv;exact ppOk rfl hnv HR4F.out HA4F.out
 ):G:=h
theorem zrqbs.zrcX {G:Prop}(h:G:=by
  clear hwn hpe2;exact zrbe
 ):G:=h
end Go.Proofs.YtoimgcjbcbhclaaGreatDoor
