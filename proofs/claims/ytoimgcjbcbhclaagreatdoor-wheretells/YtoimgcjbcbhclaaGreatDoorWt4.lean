/-
  Parts of proofs that stand more than once.
-/
import Derived.Test.YtoimgcjbcbhclaaGreatDoorWt3
set_option maxRecDepth 100000
set_option maxHeartbeats 16000000
namespace Go.Proofs.YtoimgcjbcbhclaaGreatDoor
open Go.RowKit
theorem zrqbg.zrdyX {G:Prop}(h:G:=by
  have HR2:=hide (HR1.out.alloc (.cells #[.string ⟨#[]⟩,.int .i64 0,.int .i64 0,.int .i64 0] 189));have HW2:=hide (HB1.out.alloc HB1.out.size (.cells #[.string ⟨#[]⟩,.int .i64 0,.int .i64 0,.int .i64 0] 189))
  exact zbfx
 ):G:=h
theorem zrqbg.zrdjX {G:Prop}(h:G:=by
  refine wpAnyH_ready (rs:=[5,10]) (by kernel_rfl) (by simp) (AllReadyH.cons rfl (fun K hK=>?_) (AllReadyH.cons rfl (fun K hK=>?_) AllReadyH.nil))
  ·go_simp;refine cm (fixed_any c _ i d HRq.out.drew) ?_;rintro e w1 ⟨rfl,hb⟩;have HR1:=hide (HRq.out.drew.later hb);have HB1:=hide (HBq.out.trans (((Below.refl _ _).drew.trans hb).mono HBq.out.size));clear hb
   refine hK.out _ _ HR1.out (fun _=>?_);clear hK K
   refine wg 6 (.tuple #[.agg #[.string ⟨#[]⟩,.int .i64 0,.int .i64 0,.int .i64 0],.bool false]) rfl (Or.inl ⟨by kernel_rfl,fun W hW=>by have hh:=HL2.out W hW;go_simp⟩) HR1.out ?_
   exact zrdy
  ·exact zrcu
 ):G:=h
theorem zrqbg.zrbaX {G:Prop}(h:G:=by
  exact zrdj
 ):G:=h
theorem zrqbg.zrblX {G:Prop}(h:G:=by
  exact zrba
 ):G:=h
theorem zrqbg.zrdeX {G:Prop}(h:G:=by
  have HL:Hid (∀ W:World,Rdr c W i d→(Instr.lookup 201 (.map (some c.mV)) (.string (fx c.l i)) true).run Tryz.prog W=.ok (.tuple #[.nilFunc,.bool false]) W):=fun W hW=>by
   exact zbdg
  have HL2:Hid (∀ W:World,Rdr c W i d→(Instr.lookup 199 (.map (some c.mS)) (.string (fx c.l i)) true).run Tryz.prog W=.ok (.tuple #[.agg #[.string ⟨#[]⟩,.int .i64 0,.int .i64 0,.int .i64 0],.bool false]) W):=fun W hW=>by
   have:=look_signs c (fx c.l i) W hW.base.signs;rw[hsg] at this;exact this
  clear h h1 h3 h4 hq hsg;exact zrbl
 ):G:=h
theorem zrqbh.zrcuX {G:Prop}(h:G:=by
  refine wg 6 (.tuple #[.agg #[.string x.tx,.int .i64 x.kd,.int .i64 x.parts,.int .i64 x.str],.bool true]) rfl (Or.inl ⟨by kernel_rfl,fun W hW=>by have hh:=HL2.out W hW;go_simp⟩) HR1.out ?_
  refine wh 7 (.tuple #[.agg #[.string x.tx,.int .i64 x.kd,.int .i64 x.parts,.int .i64 x.str],.bool true]) HR1.out ?_;refine wh 8 (.agg #[.string x.tx,.int .i64 x.kd,.int .i64 x.parts,.int .i64 x.str]) HR1.out ?_
  refine wh 9 (.bool true) HR1.out ?_;refine wq1 11 fun K hK=>?_;go_simp;clear r0 r1 r2 r3 rf rlt
  obtain⟨W2,hW2⟩:∃ W2,W2=(((w1.setCell ⟨wq.heap.size,0,none⟩ (.string x.tx)).setCell ⟨wq.heap.size,1,none⟩ (.int .i64 x.kd)).setCell ⟨wq.heap.size,2,none⟩ (.int .i64 x.parts)).setCell ⟨wq.heap.size,3,none⟩ (.int .i64 x.str):=⟨_,rfl⟩
  obtain⟨hr2,hb2,⟨s0,s1,s2,s3,sf,slt⟩⟩:=w3_any (v0:=.string x.tx) (v1:=.int .i64 x.kd) (v2:=.int .i64 x.parts) (v3:=.int .i64 x.str) HR1.out HLO.out P1.out hW2;have HR2:=hide hr2
  have HW2:=hide (HB1.out.trans (hb2.mono HBq.out.size));rw[←hW2];clear hW2 hr2 hb2;exact zbfp
 ):G:=h
theorem zrqbh.zrdjX {G:Prop}(h:G:=by
  refine wpAnyH_ready (rs:=[5,10]) (by kernel_rfl) (by simp) (AllReadyH.cons rfl (fun K hK=>?_) (AllReadyH.cons rfl (fun K hK=>?_) AllReadyH.nil))
  ·go_simp;refine cm (fixed_any c _ i d HRq.out.drew) ?_;rintro e w1 ⟨rfl,hb⟩;have HR1:=hide (HRq.out.drew.later hb);have HB1:=hide (HBq.out.trans (((Below.refl _ _).drew.trans hb).mono HBq.out.size));clear hb
   refine hK.out _ _ HR1.out (fun _=>?_);clear hK K
   refine wg 6 (.tuple #[.agg #[.string x.tx,.int .i64 x.kd,.int .i64 x.parts,.int .i64 x.str],.bool true]) rfl (Or.inl ⟨by kernel_rfl,fun W hW=>by have hh:=HL2.out W hW;go_simp⟩) HR1.out ?_
   refine wh 7 (.tuple #[.agg #[.string x.tx,.int .i64 x.kd,.int .i64 x.parts,.int .i64 x.str],.bool true]) HR1.out ?_;refine wh 8 (.agg #[.string x.tx,.int .i64 x.kd,.int .i64 x.parts,.int .i64 x.str]) HR1.out ?_
   refine wh 9 (.bool true) HR1.out ?_;refine wq1 10 fun K hK=>?_;go_simp;refine hK.out _ _ (HR1.out.alloc O160) (fun _=>?_);clear hK K;refine wq1 11 fun K hK=>?_;go_simp
   have HR2:=hide (HR1.out.alloc (.cells #[.string x.tx,.int .i64 x.kd,.int .i64 x.parts,.int .i64 x.str] 189))
   have HW2:=hide (HB1.out.alloc HB1.out.size (.cells #[.string x.tx,.int .i64 x.kd,.int .i64 x.parts,.int .i64 x.str] 189));exact zbfp
  ·exact zrcu
 ):G:=h
theorem zrqbh.zrbaX {G:Prop}(h:G:=by
  exact zrdj
 ):G:=h
theorem zrqbh.zrblX {G:Prop}(h:G:=by
  exact zrba
 ):G:=h
theorem zrqbh.zrdeX {G:Prop}(h:G:=by
  have HL:Hid (∀ W:World,Rdr c W i d→(Instr.lookup 201 (.map (some c.mV)) (.string (fx c.l i)) true).run Tryz.prog W=.ok (.tuple #[.nilFunc,.bool false]) W):=fun W hW=>by
   exact zbdg
  have HL2:Hid (∀ W:World,Rdr c W i d→(Instr.lookup 199 (.map (some c.mS)) (.string (fx c.l i)) true).run Tryz.prog W=.ok (.tuple #[.agg #[.string x.tx,.int .i64 x.kd,.int .i64 x.parts,.int .i64 x.str],.bool true]) W):=fun W hW=>by
   have:=look_signs c (fx c.l i) W hW.base.signs;rw[hsg] at this;exact this
  clear h h1 h3 h4 hq hsg;exact zrbl
 ):G:=h
theorem zrqbi.zrblX {G:Prop}(h:G:=by
  clear hbq;refine hK.out _ _ HRq.out (fun _=>?_);clear hK K
  refine wg 6 (.tuple #[.func (.func (vlFn q)) #[.pointer (some ⟨c.R,0,none⟩)] #[],.bool true]) rfl (Or.inl ⟨by kernel_rfl,fun W hW=>by have hh:=HL.out W hW;go_simp⟩) HRq.out ?_
  refine wh 7 (.tuple #[.func (.func (vlFn q)) #[.pointer (some ⟨c.R,0,none⟩)] #[],.bool true]) HRq.out ?_;refine wh 8 (.func (.func (vlFn q)) #[.pointer (some ⟨c.R,0,none⟩)] #[]) HRq.out ?_
  refine wh 9 (.bool true) HRq.out ?_;refine wh 10 (.func (.func (vlFn q)) #[.pointer (some ⟨c.R,0,none⟩)] #[]) HRq.out ?_;refine wh 11 (.bool true) HRq.out ?_;refine wpAnyH_done (by kernel_rfl) ?_ _;go_simp
  go_wp2_with fail;go_ret;exact⟨rfl,HBq.out⟩
 ):G:=h
theorem zrqbi.zrdeX {G:Prop}(h:G:=by
  have HL:Hid (∀ W:World,Rdr c W i d→(Instr.lookup 201 (.map (some c.mV)) (.string (fx c.l i)) true).run Tryz.prog W=.ok (.tuple #[.func (.func (vlFn q)) #[.pointer (some ⟨c.R,0,none⟩)] #[],.bool true]) W):=fun W hW=>by
   exact zbdg
  clear h h1 h3 h4 hq;exact zrbl
 ):G:=h
theorem zrqbj.zrcjX {G:Prop}(h:G:=by
  refine wt 5 (rPtr c) ?_;refine wt 6 (rPtr c) ?_;refine wt 7 (.func (.func 176) #[rPtr c] #[]) ?_;refine wr2 4 8 (fun K hK=>?_) fun K hK=>?_
  ·go_simp;refine hK _ _ ?_;clear hK K;refine wr1 8 fun K hK=>?_;exact zbgx
  ·exact zbgx
 ):G:=h
theorem zrqbj.zrdnX {G:Prop}(h:G:=by
  have HN1:=hide (EV.mono hn1 HA0.out.size);clear hn1;clear hrd ha HA0 HR0;obtain⟨p0,u0,ps0,rfl,hop⟩:=HN1.out.opens;have HOP:=hide hop;clear hop HN1
  by_cases hx:fx c.l j1=tElse
  ·rw[if_pos hx] at HS;have HC:=hide (take_yes c tElse w1 j1 d HR1.out hx (by decide));clear hx;go_wp2_with fail;refine cm HC.out ?_;rintro e w2 ⟨rfl,hr2,ha2⟩;clear HC;have HR2:=hide hr2
   have HA2:=hide (HA1.out.next ha2);replace HOP:=hide (Open.later HOP.out ha2 HLT.out);clear hr2 ha2 HR1 HA1;obtain⟨hc3,hcf,hcl⟩:=HOP.out.cell;obtain⟨ua,uc,hue⟩:=HOP.out.shape;subst hue
   cases hr:deepP c.l F.st d (j1+1) with
   | out=>
    exact zbal
   | bad er p=>
    have HC:=hide (deepS hF w2.drew d (j1+1) HR2.out.drew (by rw[hr];nofun))
    rw[hr] at HC HS;simp only[bind_bad] at HS;clear hr;go_wp2_with fail;exact zrcj
   | ok tx1 jx=>
    have HC:=hide (deepS hF w2.drew d (j1+1) HR2.out.drew (by rw[hr];nofun))
    rw[hr] at HC HS;simp only[bind_ok] at HS;clear hr;go_wp2_with fail;refine via2 (H:=fun wc pc=>Ap c.R w2.heap.size w2 wc∧Rdr c wc jx d∧NAt (From w2.heap.size) wc tx1 pc) (G:=?G1) (fun CONT=>?_) ?_
    rotate_left
    ·refine wp_region_any (by kernel_rfl) ?_;change wpAny _ _ _ _ _ _ _ (World.drew _);refine wt 0 (nPtr p0) ?_;refine wt 1 (nPtr p0) ?_;refine wt 2 (nPtr p0) ?_;refine wt 3 (.pointer (some ⟨p0,3,none⟩)) ?_
     refine wt 5 (rPtr c) ?_;refine wt 6 (rPtr c) ?_;refine wt 7 (.func (.func 176) #[rPtr c] #[]) ?_;refine wr2 4 8 (fun K hK=>?_) fun K hK=>?_
     ·go_simp;refine hK _ _ ?_;clear hK K;refine wr1 8 fun K hK=>?_;go_simp;refine cm HC.out ?_;intro e wc hp;obtain⟨⟨vc,rfl,pc,rfl,hnc⟩,hrd,ha⟩:=hp
      have ha0:=((Ap.refl c.R w2.heap.size w2).drew).next ha;have HY:Hid (Ap c.R w2.heap.size w2 wc∧Rdr c wc jx d∧NAt (From w2.heap.size) wc tx1 pc):=⟨ha0,hrd,hnc⟩;exact zcba
     ·go_simp;refine cm HC.out ?_;intro e wc hp;obtain⟨⟨vc,rfl,pc,rfl,hnc⟩,hrd,ha⟩:=hp;have ha0:=((Ap.refl c.R w2.heap.size w2).drew).next ha
      have HY:Hid (Ap c.R w2.heap.size w2 wc∧Rdr c wc jx d∧NAt (From w2.heap.size) wc tx1 pc):=⟨ha0,hrd,hnc⟩;exact zcbb
    intro wc pc hY;obtain⟨ha0,hrd,hnc⟩:=hY;have HAc:=hide (HA2.out.next ha0);have HRc:=hide hrd;have HOc:=hide (Open.later HOP.out ha0 HLT.out)
    have HNc:=hide (Open.apart HOP.out HA2.out.size ha0 HLT.out (NAts.cons hnc NAts.nil));obtain⟨gc3,gcf,gcl⟩:=HOc.out.cell;clear hrd ha0 hnc;have hlen:=NAts.length _ _ HOc.out.kids;have hown:=HOc.out.row
    rw[hlen] at hown;have HOWN:=hide hown;have hsz:=HAc.out.size;have hkl:x1.kids.length≤3:=by rw[HKL.out];decide
    clear hown hlen;refine wr1 10 fun K hK=>?_
    refine step_append_lies _ rfl _ _ 46 rfl w.heap.size 22 i0 (.pointer none) 1 8 Tryz.underlying46 hi0 hz0 hz1 hz2 rfl (by decide) _ _ _ rfl (HOWN.out.alloc _) ⟨wc.heap.size,0,none⟩ 1 1 [nPtr pc] rfl rfl (one_cells wc pc _ rfl) (one_one pc) (by decide) (by unfold maxLen;omega) (by omega) (by simp;omega) (wc.heap.size+1) (by simp) ?_
    intro g cap w3 hown3 hgr3 hg3 _;refine hK _ _ ?_;clear hK K;have HP1:=hide (push1 HOc.out HNc.out HRc.out HAc.out HLO.out hown3 hgr3 hg3)
    have hp3:w3.cell? ⟨p0,3,none⟩=wc.cell? ⟨p0,3,none⟩∧w3.frozen? ⟨p0,3,none⟩=wc.frozen? ⟨p0,3,none⟩:=by
     exact zcan
    obtain⟨hp3c,hp3f⟩:=hp3;rw[gc3] at hp3c;rw[gcf 3] at hp3f;clear hown3 hgr3 hg3;refine wt 11 (nPtr p0) ?_;refine wt 12 (.pointer (some ⟨p0,3,none⟩)) ?_;refine wr1 13 fun K hK=>?_;go_simp
    refine hK _ _ ?_;clear hK K hp3c hp3f gc3 gcf gcl HOWN;refine wpAny_done (by kernel_rfl) ?_ _;go_simp;obtain⟨m1,m2,m3⟩:=unhide HP1;have HM1:=hide m1;have HM2:=hide m2;have HM3:=hide m3;clear m1 m2 m3
    go_wp2_with fail;go_ret;exact ppOk HS.out.symm HM1.out.nv HM2.out HM3.out
  ·rw[if_neg hx] at HS;have HC:=hide (take_not c tElse w1 j1 d HR1.out hx);clear hx;go_wp2_with fail;refine cm HC.out ?_;rintro e w2 ⟨rfl,hb2⟩;clear HC;have HR2:=hide (HR1.out.later hb2)
   have HA2:=hide (HA1.out.next (Ap.of hb2));replace HOP:=hide (Open.later HOP.out (Ap.of hb2) HLT.out);clear hb2;go_wp2_with fail;go_ret;exact ppOk HS.out.symm HOP.out.ev.nv HR2.out HA2.out
 ):G:=h
theorem zrqbk.zrcjX {G:Prop}(h:G:=by
  refine wt 5 (rPtr c) ?_;refine wt 6 (rPtr c) ?_;refine wt 7 (.func (.func 243) #[rPtr c] #[]) ?_;refine wr2 4 8 (fun K hK=>?_) fun K hK=>?_
  ·go_simp;refine hK _ _ ?_;clear hK K;refine wr1 8 fun K hK=>?_;exact zbdp
  ·exact zbdp
 ):G:=h
theorem zrqbk.zrebX {G:Prop}(h:G:=by
  have HC:=hide (node_any hd noText (.slice none 0 0) wk ⟨_,_,_,rfl⟩);go_wp2_with fail;refine cm HC.out ?_;rintro e wn0 ⟨rfl,rfl⟩;clear HC
  obtain⟨m1,m2,m3⟩:=made0 HRk.out HAk.out (KV.nil _ _) hd noText _ rfl;obtain⟨t0,ht0⟩:∃ t0:Tr,t0=.mk hd noText 0 []:=⟨_,rfl⟩;rw[←ht0] at m1;have HKL:Hid (t0.kids.length=0):=by
   show _=_
   rw[ht0];rfl
  have HTK:Hid (t0.kd=hd):=by
   show _=_
   rw[ht0];rfl
  have HT0:=hide ht0;obtain⟨p0,u0,ps0,hpe,hop⟩:=m1.opens;have hpe2:p0=wk.heap.size:=by simpa[nPtr] using hpe.symm
  obtain⟨hk0,_,_,_,_⟩:=node_cells hop.blk;rw[HTK.out] at hk0;have hkl0:=lt_of_heap hop.blk;rw[hpe2] at hop hk0 hkl0;have HOP0:=hide hop;have HRn:=hide m2;have HAn:=hide m3;clear m1 m2 m3 hop hpe ht0
  obtain⟨wn,hwn⟩:∃ wn,wn=wk.alloc (nodeObj hd noText 0 (.slice none 0 0)):=⟨_,rfl⟩;rw[←hwn] at HOP0 HRn HAn hk0 hkl0;rw[←hpe2] at HOP0 hk0 hkl0;rw[←hwn,←hpe2];clear hwn hpe2
  by_cases h11:hd=11
  ·rw[if_pos (Or.inl h11)] at HS;have b11:(hd==11)=true:=beq_iff_eq.2 h11;clear h11;have HOP:=hide HOP0.out;obtain⟨hc3,hcf,hcl⟩:=HOP.out.cell;obtain⟨ua,uc,hue⟩:=HOP.out.shape;subst hue
   cases hr:deepP c.l F.vl d (i+1) with
   | out=>
    exact zbal
   | bad er p=>
    have HC:=hide (deepV hF wn.drew d (i+1) HRn.out.drew (by rw[hr];nofun))
    rw[hr] at HC HS;simp only[bind_bad] at HS;clear hr;go_wp2_with fail;exact zrcj
   | ok tx1 jx=>
    have HC:=hide (deepV hF wn.drew d (i+1) HRn.out.drew (by rw[hr];nofun))
    rw[hr] at HC HS;simp only[bind_ok] at HS;clear hr;go_wp2_with fail;refine via2 (H:=fun wc pc=>Ap c.R wn.heap.size wn wc∧Rdr c wc jx d∧NAt (From wn.heap.size) wc tx1 pc) (G:=?G1) (fun CONT=>?_) ?_
    rotate_left
    ·refine wp_region_any (by kernel_rfl) ?_;change wpAny _ _ _ _ _ _ _ (World.drew _);refine wt 0 (nPtr p0) ?_;refine wt 1 (nPtr p0) ?_;refine wt 2 (nPtr p0) ?_;refine wt 3 (.pointer (some ⟨p0,3,none⟩)) ?_
     refine wt 5 (rPtr c) ?_;refine wt 6 (rPtr c) ?_;refine wt 7 (.func (.func 243) #[rPtr c] #[]) ?_;refine wr2 4 8 (fun K hK=>?_) fun K hK=>?_
     ·go_simp;refine hK _ _ ?_;clear hK K;refine wr1 8 fun K hK=>?_;go_simp;refine cm HC.out ?_;intro e wc hp;obtain⟨⟨vc,rfl,pc,rfl,hnc⟩,hrd,ha⟩:=hp
      have ha0:=((Ap.refl c.R wn.heap.size wn).drew).next ha;have HY:Hid (Ap c.R wn.heap.size wn wc∧Rdr c wc jx d∧NAt (From wn.heap.size) wc tx1 pc):=⟨ha0,hrd,hnc⟩;exact zcba
     ·go_simp;refine cm HC.out ?_;intro e wc hp;obtain⟨⟨vc,rfl,pc,rfl,hnc⟩,hrd,ha⟩:=hp;have ha0:=((Ap.refl c.R wn.heap.size wn).drew).next ha
      have HY:Hid (Ap c.R wn.heap.size wn wc∧Rdr c wc jx d∧NAt (From wn.heap.size) wc tx1 pc):=⟨ha0,hrd,hnc⟩;exact zcbb
    intro wc pc hY;obtain⟨ha0,hrd,hnc⟩:=hY;have HAc:=hide (HAn.out.next ha0);have HRc:=hide hrd;have HOc:=hide (Open.later HOP.out ha0 HLT.out)
    have HNc:=hide (Open.apart HOP.out HAn.out.size ha0 HLT.out (NAts.cons hnc NAts.nil));obtain⟨gc3,gcf,gcl⟩:=HOc.out.cell;clear hrd ha0 hnc;have hlen:=NAts.length _ _ HOc.out.kids;have hown:=HOc.out.row
    rw[hlen] at hown;have HOWN:=hide hown;have hsz:=HAc.out.size;have hkl:t0.kids.length≤3:=by rw[HKL.out];decide
    clear hown hlen;refine wr1 10 fun K hK=>?_
    refine step_append_lies _ rfl _ _ 46 rfl w.heap.size 22 i0 (.pointer none) 1 8 Tryz.underlying46 hi0 hz0 hz1 hz2 rfl (by decide) _ _ _ rfl (HOWN.out.alloc _) ⟨wc.heap.size,0,none⟩ 1 1 [nPtr pc] rfl rfl (one_cells wc pc _ rfl) (one_one pc) (by decide) (by unfold maxLen;omega) (by omega) (by simp;omega) (wc.heap.size+1) (by simp) ?_
    intro g cap w3 hown3 hgr3 hg3 _;refine hK _ _ ?_;clear hK K;have HP1:=hide (push1 HOc.out HNc.out HRc.out HAc.out HLO.out hown3 hgr3 hg3)
    have hp3:w3.cell? ⟨p0,3,none⟩=wc.cell? ⟨p0,3,none⟩∧w3.frozen? ⟨p0,3,none⟩=wc.frozen? ⟨p0,3,none⟩:=by
     exact zcan
    obtain⟨hp3c,hp3f⟩:=hp3;rw[gc3] at hp3c;rw[gcf 3] at hp3f;clear hown3 hgr3 hg3;refine wt 11 (nPtr p0) ?_;refine wt 12 (.pointer (some ⟨p0,3,none⟩)) ?_;refine wr1 13 fun K hK=>?_;go_simp
    refine hK _ _ ?_;clear hK K hp3c hp3f gc3 gcf gcl HOWN;refine wpAny_done (by kernel_rfl) ?_ _;go_simp;obtain⟨m1,m2,m3⟩:=unhide HP1;have HM1:=hide m1;have HM2:=hide m2;have HM3:=hide m3;clear m1 m2 m3
    cases hr:mustP c.l tSemi jx with
    | out=>
     exact zbal
    | bad er p=>
     exact zbbs
    | ok x1 j1=>
     exact zbcz
  ·have b11:(hd==11)=false:=beq_eq_false_iff_ne.2 h11;have HC:=hide (fixed_any c wn (i+1) d HRn.out)
   by_cases hx:fx c.l (i+1)=tSemi
   ·rw[if_neg (fun hh=>hh.elim h11 (fun h2=>h2 hx))] at HS;have bx:((fx c.l (i+1)).toList==[59])=true:=tl_eqL (b:=tSemi) rfl hx;clear h11 hx;go_wp2_with fail;refine cm HC.out ?_;rintro e wf ⟨rfl,hbf⟩
    clear HC;have HRf:=hide (HRn.out.later hbf);have HAf:=hide (HAn.out.next (Ap.of hbf));have HOP:=hide (Open.later HOP0.out (Ap.of hbf) HLT.out);clear hbf hk0 hkl0;have HM1:=hide HOP.out.ev
    cases hr:mustP c.l tSemi (i+1) with
    | out=>
     exact zbal
    | bad er p=>
     have HC:=hide (must_any c tSemi wf (i+1) d HRf.out (by decide));rw[hr] at HC HS;simp only[bind_bad] at HS;clear hr;go_wp2_with fail;refine cm HC.out ?_;intro e w' hp;obtain⟨rfl,ha⟩:=hp
     exact⟨rfl,ppBad HS.out.symm (HAf.out.next ha)⟩
    | ok x1 j1=>
     have HC:=hide (must_any c tSemi wf (i+1) d HRf.out (by decide));rw[hr] at HC HS;simp only[bind_ok] at HS;clear hr;go_wp2_with fail;refine cm HC.out ?_;intro e w1 hp;obtain⟨⟨v1,rfl,rfl⟩,hrd,ha⟩:=hp
     clear HC;have HA1:=hide (HAf.out.next ha);have HR1:=hide hrd;replace HM1:=hide (EV.later HM1.out ha HLT.out);clear hrd ha HAf HRf;have ht0:=unhide HT0;subst ht0;go_wp2_with fail;go_ret
     exact ppOk HS.out.symm HM1.out.nv HR1.out HA1.out
   ·rw[if_pos (Or.inr hx)] at HS;have bx:((fx c.l (i+1)).toList==[59])=false:=tl_neL (b:=tSemi) rfl hx;clear h11 hx;go_wp2_with fail;refine cm HC.out ?_;rintro e wf ⟨rfl,hbf⟩;clear HC
    have HRf:=hide (HRn.out.later hbf);have HAf:=hide (HAn.out.next (Ap.of hbf));have HOP:=hide (Open.later HOP0.out (Ap.of hbf) HLT.out);clear hbf hk0 hkl0;obtain⟨hc3,hcf,hcl⟩:=HOP.out.cell
    obtain⟨ua,uc,hue⟩:=HOP.out.shape;subst hue
    cases hr:deepP c.l F.vl d (i+1) with
    | out=>
     exact zbal
    | bad er p=>
     have HC:=hide (deepV hF wf.drew d (i+1) HRf.out.drew (by rw[hr];nofun))
     rw[hr] at HC HS;simp only[bind_bad] at HS;clear hr;go_wp2_with fail;refine wp_region_any (by kernel_rfl) ?_;change wpAny _ _ _ _ _ _ _ (World.drew _);refine wt 0 (nPtr p0) ?_;refine wt 1 (nPtr p0) ?_
     refine wt 2 (nPtr p0) ?_;refine wt 3 (.pointer (some ⟨p0,3,none⟩)) ?_;refine wt 5 (rPtr c) ?_;refine wt 6 (rPtr c) ?_;refine wt 7 (.func (.func 243) #[rPtr c] #[]) ?_
     refine wr2 4 8 (fun K hK=>?_) fun K hK=>?_
     ·go_simp;refine hK _ _ ?_;clear hK K;refine wr1 8 fun K hK=>?_;exact zbgw
     ·exact zbgw
    | ok tx1 jx=>
     have HC:=hide (deepV hF wf.drew d (i+1) HRf.out.drew (by rw[hr];nofun))
     rw[hr] at HC HS;simp only[bind_ok] at HS;clear hr;go_wp2_with fail;refine via2 (H:=fun wc pc=>Ap c.R wf.heap.size wf wc∧Rdr c wc jx d∧NAt (From wf.heap.size) wc tx1 pc) (G:=?G2) (fun CONT=>?_) ?_
     rotate_left
     ·refine wp_region_any (by kernel_rfl) ?_;change wpAny _ _ _ _ _ _ _ (World.drew _);refine wt 0 (nPtr p0) ?_;refine wt 1 (nPtr p0) ?_;refine wt 2 (nPtr p0) ?_;refine wt 3 (.pointer (some ⟨p0,3,none⟩)) ?_
      refine wt 5 (rPtr c) ?_;refine wt 6 (rPtr c) ?_;refine wt 7 (.func (.func 243) #[rPtr c] #[]) ?_;refine wr2 4 8 (fun K hK=>?_) fun K hK=>?_
      ·go_simp;refine hK _ _ ?_;clear hK K;refine wr1 8 fun K hK=>?_;go_simp;refine cm HC.out ?_;intro e wc hp;obtain⟨⟨vc,rfl,pc,rfl,hnc⟩,hrd,ha⟩:=hp
       have ha0:=((Ap.refl c.R wf.heap.size wf).drew).next ha;have HY:Hid (Ap c.R wf.heap.size wf wc∧Rdr c wc jx d∧NAt (From wf.heap.size) wc tx1 pc):=⟨ha0,hrd,hnc⟩;exact zcba
      ·go_simp;refine cm HC.out ?_;intro e wc hp;obtain⟨⟨vc,rfl,pc,rfl,hnc⟩,hrd,ha⟩:=hp;have ha0:=((Ap.refl c.R wf.heap.size wf).drew).next ha
       have HY:Hid (Ap c.R wf.heap.size wf wc∧Rdr c wc jx d∧NAt (From wf.heap.size) wc tx1 pc):=⟨ha0,hrd,hnc⟩;exact zcbb
     intro wc pc hY;obtain⟨ha0,hrd,hnc⟩:=hY;have HAc:=hide (HAf.out.next ha0);have HRc:=hide hrd;have HOc:=hide (Open.later HOP.out ha0 HLT.out)
     have HNc:=hide (Open.apart HOP.out HAf.out.size ha0 HLT.out (NAts.cons hnc NAts.nil));obtain⟨gc3,gcf,gcl⟩:=HOc.out.cell;clear hrd ha0 hnc;have hlen:=NAts.length _ _ HOc.out.kids;have hown:=HOc.out.row
     rw[hlen] at hown;have HOWN:=hide hown;have hsz:=HAc.out.size;have hkl:t0.kids.length≤3:=by rw[HKL.out];decide
     clear hown hlen;refine wr1 10 fun K hK=>?_
     refine step_append_lies _ rfl _ _ 46 rfl w.heap.size 22 i0 (.pointer none) 1 8 Tryz.underlying46 hi0 hz0 hz1 hz2 rfl (by decide) _ _ _ rfl (HOWN.out.alloc _) ⟨wc.heap.size,0,none⟩ 1 1 [nPtr pc] rfl rfl (one_cells wc pc _ rfl) (one_one pc) (by decide) (by unfold maxLen;omega) (by omega) (by simp;omega) (wc.heap.size+1) (by simp) ?_
     intro g cap w3 hown3 hgr3 hg3 _;refine hK _ _ ?_;clear hK K;have HP1:=hide (push1 HOc.out HNc.out HRc.out HAc.out HLO.out hown3 hgr3 hg3)
     have hp3:w3.cell? ⟨p0,3,none⟩=wc.cell? ⟨p0,3,none⟩∧w3.frozen? ⟨p0,3,none⟩=wc.frozen? ⟨p0,3,none⟩:=by
      exact zcan
     obtain⟨hp3c,hp3f⟩:=hp3;rw[gc3] at hp3c;rw[gcf 3] at hp3f;clear hown3 hgr3 hg3;refine wt 11 (nPtr p0) ?_;refine wt 12 (.pointer (some ⟨p0,3,none⟩)) ?_;refine wr1 13 fun K hK=>?_;go_simp
     refine hK _ _ ?_;clear hK K hp3c hp3f gc3 gcf gcl HOWN;refine wpAny_done (by kernel_rfl) ?_ _;go_simp;obtain⟨m1,m2,m3⟩:=unhide HP1;have HM1:=hide m1;have HM2:=hide m2;have HM3:=hide m3
     clear m1 m2 m3
     cases hr:mustP c.l tSemi jx with
     | out=>
      exact zbal
     | bad er p=>
      exact zbbs
     | ok x1 j1=>
      exact zbcz
 ):G:=h
theorem zrqbl.zrebX {G:Prop}(h:G:=by
  cases hr:nameP c.l (i+1) with
  | out=>
   exact zbal
  | bad er p=>
   have HC:=hide (name_any c wk (i+1) d HRk.out);exact zbft
  | ok x1 j1=>
   have HC:=hide (name_any c wk (i+1) d HRk.out);rw[hr] at HC HS;simp only[bind_ok] at HS;clear hr;go_wp2_with fail;refine cm HC.out ?_;intro e w1 hp;obtain⟨⟨v1,rfl,rfl⟩,hrd,ha⟩:=hp;clear HC
   have HA1:=hide (HAk.out.next ha);have HR1:=hide hrd;clear hrd ha HAk HRk;have HC:=hide (node_any hd x1 (.slice none 0 0) w1 ⟨_,_,_,rfl⟩);go_wp2_with fail;refine cm HC.out ?_;rintro e wn0 ⟨rfl,rfl⟩
   clear HC;obtain⟨m1,m2,m3⟩:=made0 HR1.out HA1.out (KV.nil _ _) hd x1 _ rfl;obtain⟨t0,ht0⟩:∃ t0:Tr,t0=.mk hd x1 0 []:=⟨_,rfl⟩;rw[←ht0] at m1;have HKL:Hid (t0.kids.length=0):=by
    show _=_
    rw[ht0];rfl
   have HTK:Hid (t0.kd=hd):=by
    show _=_
    rw[ht0];rfl
   have HT0:=hide ht0;obtain⟨p0,u0,ps0,hpe,hop⟩:=m1.opens;have hpe2:p0=w1.heap.size:=by simpa[nPtr] using hpe.symm
   obtain⟨hk0,_,_,_,_⟩:=node_cells hop.blk;rw[HTK.out] at hk0;have hkl0:=lt_of_heap hop.blk;rw[hpe2] at hop hk0 hkl0;have HOP0:=hide hop;have HRn:=hide m2;have HAn:=hide m3
   clear m1 m2 m3 hop hpe ht0;obtain⟨wn,hwn⟩:∃ wn,wn=w1.alloc (nodeObj hd x1 0 (.slice none 0 0)):=⟨_,rfl⟩;rw[←hwn] at HOP0 HRn HAn hk0 hkl0;rw[←hpe2] at HOP0 hk0 hkl0;rw[←hwn,←hpe2];clear hwn hpe2
   by_cases h4:hd=4
   ·have b4:(hd==4)=true:=beq_iff_eq.2 h4;have HC:=hide (fixed_any c wn j1 d HRn.out)
    by_cases hx:fx c.l j1=tEq
    ·rw[if_neg (fun hh=>hh.2 hx)] at HS;have bx:((fx c.l j1).toList==[61])=true:=tl_eqL (b:=tEq) rfl hx;clear h4;go_wp2_with fail;refine cm HC.out ?_;rintro e wf ⟨rfl,hbf⟩;clear HC
     have HRf:=hide (HRn.out.later hbf);have HAf:=hide (HAn.out.next (Ap.of hbf));have HOP:=hide (Open.later HOP0.out (Ap.of hbf) HLT.out);clear hbf hk0 hkl0;clear hx
     by_cases hy:fx c.l j1=tEq
     ·rw[if_pos hy] at HS;have HC:=hide (take_yes c tEq wf j1 d HRf.out hy (by decide));clear hy;go_wp2_with fail;refine cm HC.out ?_;rintro e wy ⟨rfl,hry,hay⟩;clear HC;have HRy:=hide hry
      have HAy:=hide (HAf.out.next hay);replace HOP:=hide (Open.later HOP.out hay HLT.out);clear hry hay;obtain⟨hc3,hcf,hcl⟩:=HOP.out.cell;obtain⟨ua,uc,hue⟩:=HOP.out.shape;subst hue
      cases hr:deepP c.l F.vl d (j1+1) with
      | out=>
       exact zbal
      | bad er p=>
       exact zbcg
      | ok tx1 jx=>
       have HC:=hide (deepV hF wy.drew d (j1+1) HRy.out.drew (by rw[hr];nofun))
       rw[hr] at HC HS;simp only[bind_ok] at HS;clear hr;go_wp2_with fail;refine via2 (H:=fun wc pc=>Ap c.R wy.heap.size wy wc∧Rdr c wc jx d∧NAt (From wy.heap.size) wc tx1 pc) (G:=?G1) (fun CONT=>?_) ?_
       rotate_left
       ·exact zcae
       intro wc pc hY;obtain⟨ha0,hrd,hnc⟩:=hY;have HAc:=hide (HAy.out.next ha0);have HRc:=hide hrd;have HOc:=hide (Open.later HOP.out ha0 HLT.out)
       have HNc:=hide (Open.apart HOP.out HAy.out.size ha0 HLT.out (NAts.cons hnc NAts.nil));obtain⟨gc3,gcf,gcl⟩:=HOc.out.cell;clear hrd ha0 hnc;have hlen:=NAts.length _ _ HOc.out.kids;have hown:=HOc.out.row
       rw[hlen] at hown;have HOWN:=hide hown;have hsz:=HAc.out.size;have hkl:t0.kids.length≤3:=by rw[HKL.out];decide
       clear hown hlen;refine wr1 10 fun K hK=>?_
       refine step_append_lies _ rfl _ _ 46 rfl w.heap.size 22 i0 (.pointer none) 1 8 Tryz.underlying46 hi0 hz0 hz1 hz2 rfl (by decide) _ _ _ rfl (HOWN.out.alloc _) ⟨wc.heap.size,0,none⟩ 1 1 [nPtr pc] rfl rfl (one_cells wc pc _ rfl) (one_one pc) (by decide) (by unfold maxLen;omega) (by omega) (by simp;omega) (wc.heap.size+1) (by simp) ?_
       intro g cap w3 hown3 hgr3 hg3 _;refine hK _ _ ?_;clear hK K;have HP1:=hide (push1 HOc.out HNc.out HRc.out HAc.out HLO.out hown3 hgr3 hg3)
       have hp3:w3.cell? ⟨p0,3,none⟩=wc.cell? ⟨p0,3,none⟩∧w3.frozen? ⟨p0,3,none⟩=wc.frozen? ⟨p0,3,none⟩:=by
        exact zcan
       obtain⟨hp3c,hp3f⟩:=hp3;rw[gc3] at hp3c;rw[gcf 3] at hp3f;clear hown3 hgr3 hg3;refine wt 11 (nPtr p0) ?_;refine wt 12 (.pointer (some ⟨p0,3,none⟩)) ?_;refine wr1 13 fun K hK=>?_;go_simp
       refine hK _ _ ?_;clear hK K hp3c hp3f gc3 gcf gcl HOWN;refine wpAny_done (by kernel_rfl) ?_ _;go_simp;obtain⟨m1,m2,m3⟩:=unhide HP1;have HM1:=hide m1;have HM2:=hide m2;have HM3:=hide m3
       clear m1 m2 m3
       cases hr:mustP c.l tSemi jx with
       | out=>
        exact zbal
       | bad er p=>
        exact zbbs
       | ok x2 j2=>
        exact zbcy
     ·rw[if_neg hy] at HS;have HC:=hide (take_not c tEq wf j1 d HRf.out hy);clear hy;go_wp2_with fail;refine cm HC.out ?_;rintro e wy ⟨rfl,hby⟩;clear HC;have HRy:=hide (HRf.out.later hby)
      have HAy:=hide (HAf.out.next (Ap.of hby));exact zccb
    ·rw[if_pos ⟨h4,hx⟩] at HS;have bx:((fx c.l j1).toList==[61])=false:=tl_neL (b:=tEq) rfl hx;clear h4 hx;go_wp2_with fail;refine cm HC.out ?_;rintro e wf ⟨rfl,hbf⟩;clear HC
     have HRf:=hide (HRn.out.later hbf);have HAf:=hide (HAn.out.next (Ap.of hbf));have HOP:=hide (Open.later HOP0.out (Ap.of hbf) HLT.out);clear hbf hk0 hkl0;have HC:=hide (fault_any c 3 wf j1 d HRf.out)
     go_wp2_with fail;refine cm HC.out ?_;rintro e w9 ⟨rfl,hb9⟩;exact⟨rfl,ppBad HS.out.symm (HAf.out.next (Ap.of hb9))⟩
   ·have b4:(hd==4)=false:=beq_eq_false_iff_ne.2 h4;rw[if_neg (fun hh=>h4 hh.1)] at HS;clear h4;have HOP:=hide HOP0.out
    by_cases hy:fx c.l j1=tEq
    ·rw[if_pos hy] at HS;have HC:=hide (take_yes c tEq wn j1 d HRn.out hy (by decide));clear hy;go_wp2_with fail;refine cm HC.out ?_;rintro e wy ⟨rfl,hry,hay⟩;clear HC;have HRy:=hide hry
     have HAy:=hide (HAn.out.next hay);replace HOP:=hide (Open.later HOP.out hay HLT.out);clear hry hay;obtain⟨hc3,hcf,hcl⟩:=HOP.out.cell;obtain⟨ua,uc,hue⟩:=HOP.out.shape;subst hue
     cases hr:deepP c.l F.vl d (j1+1) with
     | out=>
      exact zbal
     | bad er p=>
      exact zbcg
     | ok tx1 jx=>
      have HC:=hide (deepV hF wy.drew d (j1+1) HRy.out.drew (by rw[hr];nofun))
      rw[hr] at HC HS;simp only[bind_ok] at HS;clear hr;go_wp2_with fail;refine via2 (H:=fun wc pc=>Ap c.R wy.heap.size wy wc∧Rdr c wc jx d∧NAt (From wy.heap.size) wc tx1 pc) (G:=?G2) (fun CONT=>?_) ?_
      rotate_left
      ·exact zcae
      intro wc pc hY;obtain⟨ha0,hrd,hnc⟩:=hY;have HAc:=hide (HAy.out.next ha0);have HRc:=hide hrd;have HOc:=hide (Open.later HOP.out ha0 HLT.out)
      have HNc:=hide (Open.apart HOP.out HAy.out.size ha0 HLT.out (NAts.cons hnc NAts.nil));obtain⟨gc3,gcf,gcl⟩:=HOc.out.cell;clear hrd ha0 hnc;have hlen:=NAts.length _ _ HOc.out.kids;have hown:=HOc.out.row
      rw[hlen] at hown;have HOWN:=hide hown;have hsz:=HAc.out.size;have hkl:t0.kids.length≤3:=by rw[HKL.out];decide
      clear hown hlen;refine wr1 10 fun K hK=>?_
      refine step_append_lies _ rfl _ _ 46 rfl w.heap.size 22 i0 (.pointer none) 1 8 Tryz.underlying46 hi0 hz0 hz1 hz2 rfl (by decide) _ _ _ rfl (HOWN.out.alloc _) ⟨wc.heap.size,0,none⟩ 1 1 [nPtr pc] rfl rfl (one_cells wc pc _ rfl) (one_one pc) (by decide) (by unfold maxLen;omega) (by omega) (by simp;omega) (wc.heap.size+1) (by simp) ?_
      intro g cap w3 hown3 hgr3 hg3 _;refine hK _ _ ?_;clear hK K;have HP1:=hide (push1 HOc.out HNc.out HRc.out HAc.out HLO.out hown3 hgr3 hg3)
      have hp3:w3.cell? ⟨p0,3,none⟩=wc.cell? ⟨p0,3,none⟩∧w3.frozen? ⟨p0,3,none⟩=wc.frozen? ⟨p0,3,none⟩:=by
       exact zcan
      obtain⟨hp3c,hp3f⟩:=hp3;rw[gc3] at hp3c;rw[gcf 3] at hp3f;clear hown3 hgr3 hg3;refine wt 11 (nPtr p0) ?_;refine wt 12 (.pointer (some ⟨p0,3,none⟩)) ?_;refine wr1 13 fun K hK=>?_;go_simp
      refine hK _ _ ?_;clear hK K hp3c hp3f gc3 gcf gcl HOWN;refine wpAny_done (by kernel_rfl) ?_ _;go_simp;obtain⟨m1,m2,m3⟩:=unhide HP1;have HM1:=hide m1;have HM2:=hide m2;have HM3:=hide m3
      clear m1 m2 m3
      cases hr:mustP c.l tSemi jx with
      | out=>
       exact zbal
      | bad er p=>
       exact zbbs
      | ok x2 j2=>
       exact zbcy
    ·rw[if_neg hy] at HS;have HC:=hide (take_not c tEq wn j1 d HRn.out hy);clear hy;go_wp2_with fail;refine cm HC.out ?_;rintro e wy ⟨rfl,hby⟩;clear HC;have HRy:=hide (HRn.out.later hby)
     have HAy:=hide (HAn.out.next (Ap.of hby));exact zccb
 ):G:=h
end Go.Proofs.YtoimgcjbcbhclaaGreatDoor
