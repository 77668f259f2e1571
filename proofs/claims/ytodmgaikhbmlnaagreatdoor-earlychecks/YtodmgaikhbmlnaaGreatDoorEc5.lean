/-
  Parts of proofs that stand more than once.
-/
import Derived.Test.YtodmgaikhbmlnaaGreatDoorEc4
set_option maxRecDepth 100000
set_option maxHeartbeats 16000000
namespace Go.Proofs.YtodmgaikhbmlnaaGreatDoor
open Go.RowKit
theorem zrqcb.zrcsX {G : Prop} (h : G := by
  clear hF; go_wp2_with fail
  go_loopw [5] (fun v wr => ∃ k t j p, v = nPtr p ∧ pairLoop c.l F b d k t j = r ∧ Rdr c wr j d ∧ Ap c.R w.heap.size w wr ∧ NAt (From w.heap.size) wr t p) (fun _ wr => c.l.length - nxt c wr)
  case atStart => exact ⟨F.fuel, x1, j1, p1, rfl, HS.out, HR1.out, HA1.out, HN1.out⟩
  case round =>
   obtain ⟨k, t, j, p0, rfl, hq, hrd, hap, hnt⟩ := hrel; clear HS HR1 HA1 HN1
   cases k with
   | zero => exact absurd hq.symm HO.out
   | succ k =>
    have HR2 := hide hrd; have HRM := hide hrd; have HA2 := hide hap; have HN2 := hide hnt; have hjl := hrd.lt; have hL := unhide HL; unfold pairLoop at hq
    cases hsg : sgP 2 (fx c.l j) with
    | none =>
     rw [hsg] at hq; have HQ := hide hq; have HSG := hide hsg; clear hq hrd hap hnt hsg; have HC := hide (sign_any c 2 wr j d HR2.out); rw [HSG.out] at HC; simp only [sgVO, noSg, Option.isSome] at HC; go_wp2_with fail
     refine cm HC.out ?_; rintro e ws ⟨rfl, hbws⟩; clear HC; have HAws := hide (HA2.out.next (Ap.of hbws)); have HRws := hide (HR2.out.later hbws); replace HN2 := hide (nat_later HN2.out (Ap.of hbws) HLT.out); clear hbws
     have HAs2 := hide (HAws.out.alloc HAws.out.size (.cells #[.string ⟨#[]⟩, .int .i64 0, .int .i64 0, .int .i64 0] 175))
     have HRs2 := hide (HRws.out.alloc (.cells #[.string ⟨#[]⟩, .int .i64 0, .int .i64 0, .int .i64 0] 175))
     replace HN2 := hide (nat_later HN2.out (Ap.of ((Below.refl _ _).alloc (Nat.le_refl _) (.cells #[.string ⟨#[]⟩, .int .i64 0, .int .i64 0, .int .i64 0] 175))) HLT.out); go_wp2_with fail; go_ret
     exact ppOk HQ.out.symm ⟨p0, rfl, HN2.out⟩ HRs2.out HAs2.out
    | some x =>
     rw [hsg] at hq
     dsimp only at hq
     have HSG := hide hsg; have hi := sgP_lt HE.out hjl hsg; obtain ⟨hx2, hx7⟩ := sg2 hsg; clear hrd hap hnt hsg
     by_cases hle : x.str < b
     ·
      rw [if_pos hle] at hq; have HQ := hide hq; clear hq; have HC := hide (sign_any c 2 wr j d HR2.out); rw [HSG.out] at HC; simp only [sgVO, sgV, Option.isSome] at HC; go_wp2_with fail; refine cm HC.out ?_
      rintro e ws ⟨rfl, hbws⟩; clear HC; have HAws := hide (HA2.out.next (Ap.of hbws)); have HRws := hide (HR2.out.later hbws); replace HN2 := hide (nat_later HN2.out (Ap.of hbws) HLT.out); clear hbws
      have HAs2 := hide (HAws.out.alloc HAws.out.size (.cells #[.string x.tx, .int .i64 x.kd, .int .i64 x.parts, .int .i64 x.str] 175))
      have HRs2 := hide (HRws.out.alloc (.cells #[.string x.tx, .int .i64 x.kd, .int .i64 x.parts, .int .i64 x.str] 175))
      replace HN2 := hide (nat_later HN2.out (Ap.of ((Below.refl _ _).alloc (Nat.le_refl _) (.cells #[.string x.tx, .int .i64 x.kd, .int .i64 x.parts, .int .i64 x.str] 175))) HLT.out); go_wp2_with fail; go_ret
      exact ppOk HQ.out.symm ⟨p0, rfl, HN2.out⟩ HRs2.out HAs2.out
     ·
      rw [if_neg hle] at hq; have HQ := hide hq; clear hq; have HC := hide (sign_any c 2 wr j d HR2.out); rw [HSG.out] at HC; simp only [sgVO, sgV, Option.isSome] at HC; go_wp2_with fail; refine cm HC.out ?_
      rintro e ws ⟨rfl, hbws⟩; clear HC; have HAws := hide (HA2.out.next (Ap.of hbws)); have HRws := hide (HR2.out.later hbws); replace HN2 := hide (nat_later HN2.out (Ap.of hbws) HLT.out); have hc1 := HRws.out.c1
      have hcz := HRws.out.fz; have hcl := HRws.out.rlt; obtain ⟨hx1, hxa, hx3⟩ := behindSign x HRws.out HAws.out hi; have HX1 := hide hx1; have HX2 := hide hxa; have HX3 := hide hx3
      have HTL : Hid (c.R < ws.heap.size) := hcl
      replace HN2 : Hid (NAt (From w.heap.size) (((ws.setCell ⟨c.R, 1, none⟩ (.int .i64 ((j : Int) + 1))).alloc (.cells #[.string x.tx, .int .i64 x.kd, .int .i64 x.parts, .int .i64 x.str] 175)).drew) t p0) := nat_later (c := c) HN2.out ⟨rfl, rfl, rfl, by simp, fun k hk hkr => by
       show ((ws.setCell ⟨c.R, 1, none⟩ (.int .i64 ((j : Int) + 1))).alloc (.cells #[.string x.tx, .int .i64 x.kd, .int .i64 x.parts, .int .i64 x.str] 175)).heap[k]? = _
       rw [Below.heap_alloc _ _ k (by simpa using hk), Below.heap_setCell ws ⟨c.R, 1, none⟩ _ k hkr]⟩ HLT.out
      clear hbws hx1 hxa hx3 HRws HAws
      cases hr : F.pr (x.str + 1) d (j + 1) with
      | out =>
       exact zbfz
      | bad er p =>
       have HC := hide (HFC.out.pr (x.str + 1) (by omega) (by omega) ((ws.setCell ⟨c.R, 1, none⟩ (.int .i64 ((j : Int) + 1))).alloc (.cells #[.string x.tx, .int .i64 x.kd, .int .i64 x.parts, .int .i64 x.str] 175)).drew d (j + 1) _ rfl (by rw [hr]; nofun) HX1.out)
       rw [hr] at HC HQ; simp only [bind_bad] at HQ; exact zrdd
      | ok u j2 =>
       have HC := hide (HFC.out.pr (x.str + 1) (by omega) (by omega) ((ws.setCell ⟨c.R, 1, none⟩ (.int .i64 ((j : Int) + 1))).alloc (.cells #[.string x.tx, .int .i64 x.kd, .int .i64 x.parts, .int .i64 x.str] 175)).drew d (j + 1) _ rfl (by rw [hr]; nofun) HX1.out)
       have hgt : j + 1 < j2 := by
        obtain ⟨kk, hkk⟩ := unhide HNX; exact ((hkk.pr (x.str + 1) d (j + 1) hi).2 u j2 hr).1
       rw [hr] at HC HQ; simp only [bind_ok] at HQ; clear hr; exact zrdg
 ) : G := h
theorem zrqcc.zrdyX {G : Prop} (h : G := by
  obtain ⟨W2, hW2⟩ : ∃ W2, W2 = (((w1.setCell ⟨wq.heap.size, 0, none⟩ (.string ⟨#[]⟩)).setCell ⟨wq.heap.size, 1, none⟩ (.int .i64 0)).setCell ⟨wq.heap.size, 2, none⟩ (.int .i64 0)).setCell ⟨wq.heap.size, 3, none⟩ (.int .i64 0) := ⟨_, rfl⟩
  obtain ⟨hr2, hb2, ⟨s0, s1, s2, s3, sf, slt⟩⟩ := w3_any (v0 := .string ⟨#[]⟩) (v1 := .int .i64 0) (v2 := .int .i64 0) (v3 := .int .i64 0) HR1.out HLO.out P1.out hW2; have HR2 := hide hr2
  have HW2 := hide (HB1.out.trans (hb2.mono HBq.out.size)); rw [← hW2]; clear hW2 hr2 hb2; exact zbfk
 ) : G := h
theorem zrqcc.zrceX {G : Prop} (h : G := by
  refine wg 6 (.tuple #[.agg #[.string ⟨#[]⟩, .int .i64 0, .int .i64 0, .int .i64 0], .bool false]) rfl (Or.inl ⟨by kernel_rfl, fun W hW => by have hh := HL2.out W hW; go_simp⟩) HR1.out ?_
  exact zrdy
 ) : G := h
theorem zrqcc.zrdqX {G : Prop} (h : G := by
  have HR2 := hide (HR1.out.alloc (.cells #[.string ⟨#[]⟩, .int .i64 0, .int .i64 0, .int .i64 0] 175)); have HW2 := hide (HB1.out.alloc HB1.out.size (.cells #[.string ⟨#[]⟩, .int .i64 0, .int .i64 0, .int .i64 0] 175))
  exact zbfk
 ) : G := h
theorem zrqcc.zrczX {G : Prop} (h : G := by
  refine wpAnyH_ready (rs := [5, 10]) (by kernel_rfl) (by simp) (AllReadyH.cons rfl (fun K hK => ?_) (AllReadyH.cons rfl (fun K hK => ?_) AllReadyH.nil))
  ·
   go_simp; refine cm (fixed_any c _ i d HRq.out.drew) ?_; rintro e w1 ⟨rfl, hb⟩; have HR1 := hide (HRq.out.drew.later hb); have HB1 := hide (HBq.out.trans (((Below.refl _ _).drew.trans hb).mono HBq.out.size)); clear hb
   refine hK.out _ _ HR1.out (fun _ => ?_); clear hK K
   refine wg 6 (.tuple #[.agg #[.string ⟨#[]⟩, .int .i64 0, .int .i64 0, .int .i64 0], .bool false]) rfl (Or.inl ⟨by kernel_rfl, fun W hW => by have hh := HL2.out W hW; go_simp⟩) HR1.out ?_
   exact zrdq
  ·
   exact zrce
 ) : G := h
theorem zrqcc.zrpX {G : Prop} (h : G := by
  exact zrcz
 ) : G := h
theorem zrqcc.zrbaX {G : Prop} (h : G := by
  exact zrp
 ) : G := h
theorem zrqcc.zrcpX {G : Prop} (h : G := by
  have HL : Hid (∀ W : World, Rdr c W i d → (Instr.lookup 168 (.map (some c.mV)) (.string (fx c.l i)) true).run Tryz.prog W = .ok (.tuple #[.nilFunc, .bool false]) W) := fun W hW => by
   exact zbdb
  have HL2 : Hid (∀ W : World, Rdr c W i d → (Instr.lookup 166 (.map (some c.mS)) (.string (fx c.l i)) true).run Tryz.prog W = .ok (.tuple #[.agg #[.string ⟨#[]⟩, .int .i64 0, .int .i64 0, .int .i64 0], .bool false]) W) := fun W hW => by
   have := look_signs c (fx c.l i) W hW.base.signs; rw [hsg] at this; exact this
  clear h h1 h3 h4 hq hsg; exact zrba
 ) : G := h
theorem zrqcd.zrceX {G : Prop} (h : G := by
  refine wg 6 (.tuple #[.agg #[.string x.tx, .int .i64 x.kd, .int .i64 x.parts, .int .i64 x.str], .bool true]) rfl (Or.inl ⟨by kernel_rfl, fun W hW => by have hh := HL2.out W hW; go_simp⟩) HR1.out ?_
  refine wh 7 (.tuple #[.agg #[.string x.tx, .int .i64 x.kd, .int .i64 x.parts, .int .i64 x.str], .bool true]) HR1.out ?_; refine wh 8 (.agg #[.string x.tx, .int .i64 x.kd, .int .i64 x.parts, .int .i64 x.str]) HR1.out ?_
  refine wh 9 (.bool true) HR1.out ?_; refine wq1 11 fun K hK => ?_; go_simp; clear r0 r1 r2 r3 rf rlt
  obtain ⟨W2, hW2⟩ : ∃ W2, W2 = (((w1.setCell ⟨wq.heap.size, 0, none⟩ (.string x.tx)).setCell ⟨wq.heap.size, 1, none⟩ (.int .i64 x.kd)).setCell ⟨wq.heap.size, 2, none⟩ (.int .i64 x.parts)).setCell ⟨wq.heap.size, 3, none⟩ (.int .i64 x.str) := ⟨_, rfl⟩
  obtain ⟨hr2, hb2, ⟨s0, s1, s2, s3, sf, slt⟩⟩ := w3_any (v0 := .string x.tx) (v1 := .int .i64 x.kd) (v2 := .int .i64 x.parts) (v3 := .int .i64 x.str) HR1.out HLO.out P1.out hW2; have HR2 := hide hr2
  have HW2 := hide (HB1.out.trans (hb2.mono HBq.out.size)); rw [← hW2]; clear hW2 hr2 hb2; exact zbfc
 ) : G := h
theorem zrqcd.zrczX {G : Prop} (h : G := by
  refine wpAnyH_ready (rs := [5, 10]) (by kernel_rfl) (by simp) (AllReadyH.cons rfl (fun K hK => ?_) (AllReadyH.cons rfl (fun K hK => ?_) AllReadyH.nil))
  ·
   go_simp; refine cm (fixed_any c _ i d HRq.out.drew) ?_; rintro e w1 ⟨rfl, hb⟩; have HR1 := hide (HRq.out.drew.later hb); have HB1 := hide (HBq.out.trans (((Below.refl _ _).drew.trans hb).mono HBq.out.size)); clear hb
   refine hK.out _ _ HR1.out (fun _ => ?_); clear hK K
   refine wg 6 (.tuple #[.agg #[.string x.tx, .int .i64 x.kd, .int .i64 x.parts, .int .i64 x.str], .bool true]) rfl (Or.inl ⟨by kernel_rfl, fun W hW => by have hh := HL2.out W hW; go_simp⟩) HR1.out ?_
   refine wh 7 (.tuple #[.agg #[.string x.tx, .int .i64 x.kd, .int .i64 x.parts, .int .i64 x.str], .bool true]) HR1.out ?_; refine wh 8 (.agg #[.string x.tx, .int .i64 x.kd, .int .i64 x.parts, .int .i64 x.str]) HR1.out ?_
   refine wh 9 (.bool true) HR1.out ?_; refine wq1 10 fun K hK => ?_; go_simp; refine hK.out _ _ (HR1.out.alloc O160) (fun _ => ?_); clear hK K; refine wq1 11 fun K hK => ?_; go_simp
   have HR2 := hide (HR1.out.alloc (.cells #[.string x.tx, .int .i64 x.kd, .int .i64 x.parts, .int .i64 x.str] 175))
   have HW2 := hide (HB1.out.alloc HB1.out.size (.cells #[.string x.tx, .int .i64 x.kd, .int .i64 x.parts, .int .i64 x.str] 175)); exact zbfc
  ·
   exact zrce
 ) : G := h
theorem zrqcd.zrpX {G : Prop} (h : G := by
  exact zrcz
 ) : G := h
theorem zrqcd.zrbaX {G : Prop} (h : G := by
  exact zrp
 ) : G := h
theorem zrqcd.zrcpX {G : Prop} (h : G := by
  have HL : Hid (∀ W : World, Rdr c W i d → (Instr.lookup 168 (.map (some c.mV)) (.string (fx c.l i)) true).run Tryz.prog W = .ok (.tuple #[.nilFunc, .bool false]) W) := fun W hW => by
   exact zbdb
  have HL2 : Hid (∀ W : World, Rdr c W i d → (Instr.lookup 166 (.map (some c.mS)) (.string (fx c.l i)) true).run Tryz.prog W = .ok (.tuple #[.agg #[.string x.tx, .int .i64 x.kd, .int .i64 x.parts, .int .i64 x.str], .bool true]) W) := fun W hW => by
   have := look_signs c (fx c.l i) W hW.base.signs; rw [hsg] at this; exact this
  clear h h1 h3 h4 hq hsg; exact zrba
 ) : G := h
theorem zrqce.zrbaX {G : Prop} (h : G := by
  clear hbq; refine hK.out _ _ HRq.out (fun _ => ?_); clear hK K
  refine wg 6 (.tuple #[.func (.func (vlFn q)) #[.pointer (some ⟨c.R, 0, none⟩)] #[], .bool true]) rfl (Or.inl ⟨by kernel_rfl, fun W hW => by have hh := HL.out W hW; go_simp⟩) HRq.out ?_
  refine wh 7 (.tuple #[.func (.func (vlFn q)) #[.pointer (some ⟨c.R, 0, none⟩)] #[], .bool true]) HRq.out ?_; refine wh 8 (.func (.func (vlFn q)) #[.pointer (some ⟨c.R, 0, none⟩)] #[]) HRq.out ?_
  refine wh 9 (.bool true) HRq.out ?_; refine wh 10 (.func (.func (vlFn q)) #[.pointer (some ⟨c.R, 0, none⟩)] #[]) HRq.out ?_; refine wh 11 (.bool true) HRq.out ?_; refine wpAnyH_done (by kernel_rfl) ?_ _; go_simp
  go_wp2_with fail; go_ret; exact ⟨rfl, HBq.out⟩
 ) : G := h
theorem zrqce.zrcpX {G : Prop} (h : G := by
  have HL : Hid (∀ W : World, Rdr c W i d → (Instr.lookup 168 (.map (some c.mV)) (.string (fx c.l i)) true).run Tryz.prog W = .ok (.tuple #[.func (.func (vlFn q)) #[.pointer (some ⟨c.R, 0, none⟩)] #[], .bool true]) W) := fun W hW => by
   exact zbdb
  clear h h1 h3 h4 hq; exact zrba
 ) : G := h
theorem zrqcf.zrbsX {G : Prop} (h : G := by
  refine wt 5 (rPtr c) ?_; refine wt 6 (rPtr c) ?_; refine wt 7 (.func (.func 170) #[rPtr c] #[]) ?_; refine wr2 4 8 (fun K hK => ?_) fun K hK => ?_
  ·
   go_simp; refine hK _ _ ?_; clear hK K; refine wr1 8 fun K hK => ?_; exact zbgh
  ·
   exact zbgh
 ) : G := h
theorem zrqcf.zrdfX {G : Prop} (h : G := by
  have HN1 := hide (EV.mono hn1 HA0.out.size); clear hn1; clear hrd ha HA0 HR0; obtain ⟨p0, u0, ps0, rfl, hop⟩ := HN1.out.opens; have HOP := hide hop; clear hop HN1
  by_cases hx : fx c.l j1 = tElse
  ·
   rw [if_pos hx] at HS; have HC := hide (take_yes c tElse w1 j1 d HR1.out hx (by decide)); clear hx; go_wp2_with fail; refine cm HC.out ?_; rintro e w2 ⟨rfl, hr2, ha2⟩; clear HC; have HR2 := hide hr2
   have HA2 := hide (HA1.out.next ha2); replace HOP := hide (Open.later HOP.out ha2 HLT.out); clear hr2 ha2 HR1 HA1; obtain ⟨hc3, hcf, hcl⟩ := HOP.out.cell; obtain ⟨ua, uc, hue⟩ := HOP.out.shape; subst hue
   cases hr : deepP c.l F.st d (j1 + 1) with
   | out =>
    exact zbak
   | bad er p =>
    have HC := hide (deepS hF w2.drew d (j1 + 1) HR2.out.drew (by rw [hr]; nofun))
    rw [hr] at HC HS; simp only [bind_bad] at HS; clear hr; go_wp2_with fail; exact zrbs
   | ok tx1 jx =>
    have HC := hide (deepS hF w2.drew d (j1 + 1) HR2.out.drew (by rw [hr]; nofun))
    rw [hr] at HC HS; simp only [bind_ok] at HS; clear hr; go_wp2_with fail; refine via2 (H := fun wc pc => Ap c.R w2.heap.size w2 wc ∧ Rdr c wc jx d ∧ NAt (From w2.heap.size) wc tx1 pc) (G := ?G1) (fun CONT => ?_) ?_
    rotate_left
    ·
     refine wp_region_any (by kernel_rfl) ?_; change wpAny _ _ _ _ _ _ _ (World.drew _); refine wt 0 (nPtr p0) ?_; refine wt 1 (nPtr p0) ?_; refine wt 2 (nPtr p0) ?_; refine wt 3 (.pointer (some ⟨p0, 3, none⟩)) ?_
     refine wt 5 (rPtr c) ?_; refine wt 6 (rPtr c) ?_; refine wt 7 (.func (.func 170) #[rPtr c] #[]) ?_; refine wr2 4 8 (fun K hK => ?_) fun K hK => ?_
     ·
      go_simp; refine hK _ _ ?_; clear hK K; refine wr1 8 fun K hK => ?_; go_simp; refine cm HC.out ?_; intro e wc hp; obtain ⟨⟨vc, rfl, pc, rfl, hnc⟩, hrd, ha⟩ := hp
      have ha0 := ((Ap.refl c.R w2.heap.size w2).drew).next ha; have HY : Hid (Ap c.R w2.heap.size w2 wc ∧ Rdr c wc jx d ∧ NAt (From w2.heap.size) wc tx1 pc) := ⟨ha0, hrd, hnc⟩; exact zcba
     ·
      go_simp; refine cm HC.out ?_; intro e wc hp; obtain ⟨⟨vc, rfl, pc, rfl, hnc⟩, hrd, ha⟩ := hp; have ha0 := ((Ap.refl c.R w2.heap.size w2).drew).next ha
      have HY : Hid (Ap c.R w2.heap.size w2 wc ∧ Rdr c wc jx d ∧ NAt (From w2.heap.size) wc tx1 pc) := ⟨ha0, hrd, hnc⟩; exact zcbb
    intro wc pc hY; obtain ⟨ha0, hrd, hnc⟩ := hY; have HAc := hide (HA2.out.next ha0); have HRc := hide hrd; have HOc := hide (Open.later HOP.out ha0 HLT.out)
    have HNc := hide (Open.apart HOP.out HA2.out.size (NAts.cons hnc NAts.nil)); obtain ⟨gc3, gcf, gcl⟩ := HOc.out.cell; clear hrd ha0 hnc; have hlen := NAts.length _ _ HOc.out.kids; have hown := HOc.out.row
    rw [hlen] at hown; have HOWN := hide hown; have hsz := HAc.out.size; have hkl : x1.kids.length ≤ 3 := by rw [HKL.out]; decide
    clear hown hlen; refine wr1 10 fun K hK => ?_
    refine step_append_lies _ rfl _ _ 36 rfl w.heap.size 22 i0 (.pointer none) 1 8 Tryz.underlying36 hi0 hz0 hz1 hz2 rfl (by decide) _ _ _ rfl (HOWN.out.alloc _) ⟨wc.heap.size, 0, none⟩ 1 1 [nPtr pc] rfl rfl (one_cells wc pc _ rfl) (one_one pc) (by decide) (by unfold maxLen; omega) (by omega) (by simp; omega) (wc.heap.size + 1) (by simp) ?_
    intro g cap w3 hown3 hgr3 hg3 _; refine hK _ _ ?_; clear hK K; have HP1 := hide (push1 HOc.out HNc.out HRc.out HAc.out HLO.out hown3 hgr3 hg3)
    have hp3 : w3.cell? ⟨p0, 3, none⟩ = wc.cell? ⟨p0, 3, none⟩ ∧ w3.frozen? ⟨p0, 3, none⟩ = wc.frozen? ⟨p0, 3, none⟩ := by
     exact zcan
    obtain ⟨hp3c, hp3f⟩ := hp3; rw [gc3] at hp3c; rw [gcf 3] at hp3f; clear hown3 hgr3 hg3; refine wt 11 (nPtr p0) ?_; refine wt 12 (.pointer (some ⟨p0, 3, none⟩)) ?_; refine wr1 13 fun K hK => ?_; go_simp
    refine hK _ _ ?_; clear hK K hp3c hp3f gc3 gcf gcl HOWN; refine wpAny_done (by kernel_rfl) ?_ _; go_simp; obtain ⟨m1, m2, m3⟩ := unhide HP1; have HM1 := hide m1; have HM2 := hide m2; have HM3 := hide m3; clear m1 m2 m3
    go_wp2_with fail; go_ret; exact ppOk HS.out.symm HM1.out.nv HM2.out HM3.out
  ·
   rw [if_neg hx] at HS; have HC := hide (take_not c tElse w1 j1 d HR1.out hx); clear hx; go_wp2_with fail; refine cm HC.out ?_; rintro e w2 ⟨rfl, hb2⟩; clear HC; have HR2 := hide (HR1.out.later hb2)
   have HA2 := hide (HA1.out.next (Ap.of hb2)); replace HOP := hide (Open.later HOP.out (Ap.of hb2) HLT.out); clear hb2; go_wp2_with fail; go_ret; exact ppOk HS.out.symm HOP.out.ev.nv HR2.out HA2.out
 ) : G := h
theorem zrqcg.zrbsX {G : Prop} (h : G := by
  refine wt 5 (rPtr c) ?_; refine wt 6 (rPtr c) ?_; refine wt 7 (.func (.func 222) #[rPtr c] #[]) ?_; refine wr2 4 8 (fun K hK => ?_) fun K hK => ?_
  ·
   go_simp; refine hK _ _ ?_; clear hK K; refine wr1 8 fun K hK => ?_; exact zbdl
  ·
   exact zbdl
 ) : G := h
theorem zrqcg.zrduX {G : Prop} (h : G := by
  have HC := hide (node_any hd noText (.slice none 0 0) wk ⟨_, _, _, rfl⟩); go_wp2_with fail; refine cm HC.out ?_; rintro e wn0 ⟨rfl, rfl⟩; clear HC
  obtain ⟨m1, m2, m3⟩ := made0 HRk.out HAk.out (KV.nil _ _) hd noText _ rfl; obtain ⟨t0, ht0⟩ : ∃ t0 : Tr, t0 = .mk hd noText 0 [] := ⟨_, rfl⟩; rw [← ht0] at m1; have HKL : Hid (t0.kids.length = 0) := by
   show _ = _
   rw [ht0]; rfl
  have HTK : Hid (t0.kd = hd) := by
   show _ = _
   rw [ht0]; rfl
  have HT0 := hide ht0; obtain ⟨p0, u0, ps0, hpe, hop⟩ := m1.opens; have hpe2 : p0 = wk.heap.size := by simpa [nPtr] using hpe.symm
  obtain ⟨hk0, _, _, _, _⟩ := node_cells hop.blk; rw [HTK.out] at hk0; have hkl0 := lt_of_heap hop.blk; rw [hpe2] at hop hk0 hkl0; have HOP0 := hide hop; have HRn := hide m2; have HAn := hide m3; clear m1 m2 m3 hop hpe ht0
  obtain ⟨wn, hwn⟩ : ∃ wn, wn = wk.alloc (nodeObj hd noText 0 (.slice none 0 0)) := ⟨_, rfl⟩; rw [← hwn] at HOP0 HRn HAn hk0 hkl0; rw [← hpe2] at HOP0 hk0 hkl0; rw [← hwn, ← hpe2]; clear hwn hpe2
  by_cases h11 : hd = 11
  ·
   rw [if_pos (Or.inl h11)] at HS; have b11 : (hd == 11) = true := beq_iff_eq.2 h11; clear h11; have HOP := hide HOP0.out; obtain ⟨hc3, hcf, hcl⟩ := HOP.out.cell; obtain ⟨ua, uc, hue⟩ := HOP.out.shape; subst hue
   cases hr : deepP c.l F.vl d (i + 1) with
   | out =>
    exact zbak
   | bad er p =>
    have HC := hide (deepV hF wn.drew d (i + 1) HRn.out.drew (by rw [hr]; nofun))
    rw [hr] at HC HS; simp only [bind_bad] at HS; clear hr; go_wp2_with fail; exact zrbs
   | ok tx1 jx =>
    have HC := hide (deepV hF wn.drew d (i + 1) HRn.out.drew (by rw [hr]; nofun))
    rw [hr] at HC HS; simp only [bind_ok] at HS; clear hr; go_wp2_with fail; refine via2 (H := fun wc pc => Ap c.R wn.heap.size wn wc ∧ Rdr c wc jx d ∧ NAt (From wn.heap.size) wc tx1 pc) (G := ?G1) (fun CONT => ?_) ?_
    rotate_left
    ·
     refine wp_region_any (by kernel_rfl) ?_; change wpAny _ _ _ _ _ _ _ (World.drew _); refine wt 0 (nPtr p0) ?_; refine wt 1 (nPtr p0) ?_; refine wt 2 (nPtr p0) ?_; refine wt 3 (.pointer (some ⟨p0, 3, none⟩)) ?_
     refine wt 5 (rPtr c) ?_; refine wt 6 (rPtr c) ?_; refine wt 7 (.func (.func 222) #[rPtr c] #[]) ?_; refine wr2 4 8 (fun K hK => ?_) fun K hK => ?_
     ·
      go_simp; refine hK _ _ ?_; clear hK K; refine wr1 8 fun K hK => ?_; go_simp; refine cm HC.out ?_; intro e wc hp; obtain ⟨⟨vc, rfl, pc, rfl, hnc⟩, hrd, ha⟩ := hp
      have ha0 := ((Ap.refl c.R wn.heap.size wn).drew).next ha; have HY : Hid (Ap c.R wn.heap.size wn wc ∧ Rdr c wc jx d ∧ NAt (From wn.heap.size) wc tx1 pc) := ⟨ha0, hrd, hnc⟩; exact zcba
     ·
      go_simp; refine cm HC.out ?_; intro e wc hp; obtain ⟨⟨vc, rfl, pc, rfl, hnc⟩, hrd, ha⟩ := hp; have ha0 := ((Ap.refl c.R wn.heap.size wn).drew).next ha
      have HY : Hid (Ap c.R wn.heap.size wn wc ∧ Rdr c wc jx d ∧ NAt (From wn.heap.size) wc tx1 pc) := ⟨ha0, hrd, hnc⟩; exact zcbb
    intro wc pc hY; obtain ⟨ha0, hrd, hnc⟩ := hY; have HAc := hide (HAn.out.next ha0); have HRc := hide hrd; have HOc := hide (Open.later HOP.out ha0 HLT.out)
    have HNc := hide (Open.apart HOP.out HAn.out.size (NAts.cons hnc NAts.nil)); obtain ⟨gc3, gcf, gcl⟩ := HOc.out.cell; clear hrd ha0 hnc; have hlen := NAts.length _ _ HOc.out.kids; have hown := HOc.out.row
    rw [hlen] at hown; have HOWN := hide hown; have hsz := HAc.out.size; have hkl : t0.kids.length ≤ 3 := by rw [HKL.out]; decide
    clear hown hlen; refine wr1 10 fun K hK => ?_
    refine step_append_lies _ rfl _ _ 36 rfl w.heap.size 22 i0 (.pointer none) 1 8 Tryz.underlying36 hi0 hz0 hz1 hz2 rfl (by decide) _ _ _ rfl (HOWN.out.alloc _) ⟨wc.heap.size, 0, none⟩ 1 1 [nPtr pc] rfl rfl (one_cells wc pc _ rfl) (one_one pc) (by decide) (by unfold maxLen; omega) (by omega) (by simp; omega) (wc.heap.size + 1) (by simp) ?_
    intro g cap w3 hown3 hgr3 hg3 _; refine hK _ _ ?_; clear hK K; have HP1 := hide (push1 HOc.out HNc.out HRc.out HAc.out HLO.out hown3 hgr3 hg3)
    have hp3 : w3.cell? ⟨p0, 3, none⟩ = wc.cell? ⟨p0, 3, none⟩ ∧ w3.frozen? ⟨p0, 3, none⟩ = wc.frozen? ⟨p0, 3, none⟩ := by
     exact zcan
    obtain ⟨hp3c, hp3f⟩ := hp3; rw [gc3] at hp3c; rw [gcf 3] at hp3f; clear hown3 hgr3 hg3; refine wt 11 (nPtr p0) ?_; refine wt 12 (.pointer (some ⟨p0, 3, none⟩)) ?_; refine wr1 13 fun K hK => ?_; go_simp
    refine hK _ _ ?_; clear hK K hp3c hp3f gc3 gcf gcl HOWN; refine wpAny_done (by kernel_rfl) ?_ _; go_simp; obtain ⟨m1, m2, m3⟩ := unhide HP1; have HM1 := hide m1; have HM2 := hide m2; have HM3 := hide m3; clear m1 m2 m3
    cases hr : mustP c.l tSemi jx with
    | out =>
     exact zbak
    | bad er p =>
     exact zbbt
    | ok x1 j1 =>
     exact zbcv
  ·
   have b11 : (hd == 11) = false := beq_eq_false_iff_ne.2 h11; have HC := hide (fixed_any c wn (i + 1) d HRn.out)
   by_cases hx : fx c.l (i + 1) = tSemi
   ·
    rw [if_neg (fun hh => hh.elim h11 (fun h2 => h2 hx))] at HS; have bx : ((fx c.l (i + 1)).toList == [59]) = true := tl_eqL (b := tSemi) rfl hx; clear h11 hx; go_wp2_with fail; refine cm HC.out ?_; rintro e wf ⟨rfl, hbf⟩
    clear HC; have HRf := hide (HRn.out.later hbf); have HAf := hide (HAn.out.next (Ap.of hbf)); have HOP := hide (Open.later HOP0.out (Ap.of hbf) HLT.out); clear hbf hk0 hkl0; have HM1 := hide HOP.out.ev
    cases hr : mustP c.l tSemi (i + 1) with
    | out =>
     exact zbak
    | bad er p =>
     have HC := hide (must_any c tSemi wf (i + 1) d HRf.out (by decide)); rw [hr] at HC HS; simp only [bind_bad] at HS; clear hr; go_wp2_with fail; refine cm HC.out ?_; intro e w' hp; obtain ⟨rfl, ha⟩ := hp
     exact ⟨rfl, ppBad HS.out.symm (HAf.out.next ha)⟩
    | ok x1 j1 =>
     have HC := hide (must_any c tSemi wf (i + 1) d HRf.out (by decide)); rw [hr] at HC HS; simp only [bind_ok] at HS; clear hr; go_wp2_with fail; refine cm HC.out ?_; intro e w1 hp; obtain ⟨⟨v1, rfl, rfl⟩, hrd, ha⟩ := hp
     clear HC; have HA1 := hide (HAf.out.next ha); have HR1 := hide hrd; replace HM1 := hide (EV.later HM1.out ha HLT.out); clear hrd ha HAf HRf; have ht0 := unhide HT0; subst ht0; go_wp2_with fail; go_ret
     exact ppOk HS.out.symm HM1.out.nv HR1.out HA1.out
   ·
    rw [if_pos (Or.inr hx)] at HS; have bx : ((fx c.l (i + 1)).toList == [59]) = false := tl_neL (b := tSemi) rfl hx; clear h11 hx; go_wp2_with fail; refine cm HC.out ?_; rintro e wf ⟨rfl, hbf⟩; clear HC
    have HRf := hide (HRn.out.later hbf); have HAf := hide (HAn.out.next (Ap.of hbf)); have HOP := hide (Open.later HOP0.out (Ap.of hbf) HLT.out); clear hbf hk0 hkl0; obtain ⟨hc3, hcf, hcl⟩ := HOP.out.cell
    obtain ⟨ua, uc, hue⟩ := HOP.out.shape; subst hue
    cases hr : deepP c.l F.vl d (i + 1) with
    | out =>
     exact zbak
    | bad er p =>
     have HC := hide (deepV hF wf.drew d (i + 1) HRf.out.drew (by rw [hr]; nofun))
     rw [hr] at HC HS; simp only [bind_bad] at HS; clear hr; go_wp2_with fail; refine wp_region_any (by kernel_rfl) ?_; change wpAny _ _ _ _ _ _ _ (World.drew _); refine wt 0 (nPtr p0) ?_; refine wt 1 (nPtr p0) ?_
     refine wt 2 (nPtr p0) ?_; refine wt 3 (.pointer (some ⟨p0, 3, none⟩)) ?_; refine wt 5 (rPtr c) ?_; refine wt 6 (rPtr c) ?_; refine wt 7 (.func (.func 222) #[rPtr c] #[]) ?_
     refine wr2 4 8 (fun K hK => ?_) fun K hK => ?_
     ·
      go_simp; refine hK _ _ ?_; clear hK K; refine wr1 8 fun K hK => ?_; exact zbgg
     ·
      exact zbgg
    | ok tx1 jx =>
     have HC := hide (deepV hF wf.drew d (i + 1) HRf.out.drew (by rw [hr]; nofun))
     rw [hr] at HC HS; simp only [bind_ok] at HS; clear hr; go_wp2_with fail; refine via2 (H := fun wc pc => Ap c.R wf.heap.size wf wc ∧ Rdr c wc jx d ∧ NAt (From wf.heap.size) wc tx1 pc) (G := ?G2) (fun CONT => ?_) ?_
     rotate_left
     ·
      refine wp_region_any (by kernel_rfl) ?_; change wpAny _ _ _ _ _ _ _ (World.drew _); refine wt 0 (nPtr p0) ?_; refine wt 1 (nPtr p0) ?_; refine wt 2 (nPtr p0) ?_; refine wt 3 (.pointer (some ⟨p0, 3, none⟩)) ?_
      refine wt 5 (rPtr c) ?_; refine wt 6 (rPtr c) ?_; refine wt 7 (.func (.func 222) #[rPtr c] #[]) ?_; refine wr2 4 8 (fun K hK => ?_) fun K hK => ?_
      ·
       go_simp; refine hK _ _ ?_; clear hK K; refine wr1 8 fun K hK => ?_; go_simp; refine cm HC.out ?_; intro e wc hp; obtain ⟨⟨vc, rfl, pc, rfl, hnc⟩, hrd, ha⟩ := hp
       have ha0 := ((Ap.refl c.R wf.heap.size wf).drew).next ha; have HY : Hid (Ap c.R wf.heap.size wf wc ∧ Rdr c wc jx d ∧ NAt (From wf.heap.size) wc tx1 pc) := ⟨ha0, hrd, hnc⟩; exact zcba
      ·
       go_simp; refine cm HC.out ?_; intro e wc hp; obtain ⟨⟨vc, rfl, pc, rfl, hnc⟩, hrd, ha⟩ := hp; have ha0 := ((Ap.refl c.R wf.heap.size wf).drew).next ha
       have HY : Hid (Ap c.R wf.heap.size wf wc ∧ Rdr c wc jx d ∧ NAt (From wf.heap.size) wc tx1 pc) := ⟨ha0, hrd, hnc⟩; exact zcbb
     intro wc pc hY; obtain ⟨ha0, hrd, hnc⟩ := hY; have HAc := hide (HAf.out.next ha0); have HRc := hide hrd; have HOc := hide (Open.later HOP.out ha0 HLT.out)
     have HNc := hide (Open.apart HOP.out HAf.out.size (NAts.cons hnc NAts.nil)); obtain ⟨gc3, gcf, gcl⟩ := HOc.out.cell; clear hrd ha0 hnc; have hlen := NAts.length _ _ HOc.out.kids; have hown := HOc.out.row
     rw [hlen] at hown; have HOWN := hide hown; have hsz := HAc.out.size; have hkl : t0.kids.length ≤ 3 := by rw [HKL.out]; decide
     clear hown hlen; refine wr1 10 fun K hK => ?_
     refine step_append_lies _ rfl _ _ 36 rfl w.heap.size 22 i0 (.pointer none) 1 8 Tryz.underlying36 hi0 hz0 hz1 hz2 rfl (by decide) _ _ _ rfl (HOWN.out.alloc _) ⟨wc.heap.size, 0, none⟩ 1 1 [nPtr pc] rfl rfl (one_cells wc pc _ rfl) (one_one pc) (by decide) (by unfold maxLen; omega) (by omega) (by simp; omega) (wc.heap.size + 1) (by simp) ?_
     intro g cap w3 hown3 hgr3 hg3 _; refine hK _ _ ?_; clear hK K; have HP1 := hide (push1 HOc.out HNc.out HRc.out HAc.out HLO.out hown3 hgr3 hg3)
     have hp3 : w3.cell? ⟨p0, 3, none⟩ = wc.cell? ⟨p0, 3, none⟩ ∧ w3.frozen? ⟨p0, 3, none⟩ = wc.frozen? ⟨p0, 3, none⟩ := by
      exact zcan
     obtain ⟨hp3c, hp3f⟩ := hp3; rw [gc3] at hp3c; rw [gcf 3] at hp3f; clear hown3 hgr3 hg3; refine wt 11 (nPtr p0) ?_; refine wt 12 (.pointer (some ⟨p0, 3, none⟩)) ?_; refine wr1 13 fun K hK => ?_; go_simp
     refine hK _ _ ?_; clear hK K hp3c hp3f gc3 gcf gcl HOWN; refine wpAny_done (by kernel_rfl) ?_ _; go_simp; obtain ⟨m1, m2, m3⟩ := unhide HP1; have HM1 := hide m1; have HM2 := hide m2; have HM3 := hide m3
     clear m1 m2 m3
     cases hr : mustP c.l tSemi jx with
     | out =>
      exact zbak
     | bad er p =>
      exact zbbt
     | ok x1 j1 =>
      exact zbcv
 ) : G := h
end Go.Proofs.YtodmgaikhbmlnaaGreatDoor
