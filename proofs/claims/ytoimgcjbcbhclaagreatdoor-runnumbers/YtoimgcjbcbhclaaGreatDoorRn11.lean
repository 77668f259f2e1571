/-
  Statements that give a value, and those that declare a name.
-/
import Derived.Test.YtoimgcjbcbhclaaGreatDoorRn0
import Derived.Test.YtoimgcjbcbhclaaGreatDoorRn6
import Derived.Test.YtoimgcjbcbhclaaGreatDoorRn10
set_option maxRecDepth 100000
set_option maxHeartbeats 16000000
namespace Go.Proofs.YtoimgcjbcbhclaaGreatDoor
open Go.RowKit
theorem giving_any {c : Ctx} {F : Fns} (hF : FC c F) (w : World) (d i : Nat) (r : PR Tr) (hk : (tkA c.l i).kd ≠ 6) (hs : zw9 c.l F d i = r) (ho : r ≠ .out) (h : Rdr c w i d) : Calls Tryz.prog 169 #[rPtr c] w (zk3 c w d (NV w.heap.size) r) := by
 have hmf := zk2 c.R 243
 have HKD := qh hk
 have HLO := qh h.base.size
 obtain ⟨i0, hi0, hz0, hz1, hz2⟩ := info_parts zk0
 clear hk
 have HR0 := qh h
 have HA0 := qh (Ap.refl c.R w.heap.size w)
 have HLT := qh h.rlt
 unfold zw9 at hs
 have HS := qh hs
 have HO := qh ho
 clear h hs ho
 go_enter Tryz.func169, Tryz.ntmps169
 obtain ⟨hd, hhd⟩ : ∃ hd, hd = zk9 (tkA c.l i).tx := ⟨_, rfl⟩
 rw [← hhd] at HS
 have HC := qh (kind_any c w i d HR0.out HKD.out)
 rw [← hhd] at HC
 clear hhd
 go_wp2_with fail
 refine cm HC.out ?_
 rintro e wk ⟨rfl, hrk, hak⟩
 clear HC
 have HRk := qh hrk
 have HAk := qh (HA0.out.next hak)
 clear hrk hak HR0 HA0
 have HC := qh (zqk hd zzx (.slice none 0 0) wk ⟨_, _, _, rfl⟩)
 go_wp2_with fail
 refine cm HC.out ?_
 rintro e wn0 ⟨rfl, rfl⟩
 clear HC
 obtain ⟨m1, m2, m3⟩ := made0 HRk.out HAk.out (KV.nil _ _) hd zzx _ rfl
 obtain ⟨t0, ht0⟩ : ∃ t0 : Tr, t0 = .mk hd zzx 0 [] := ⟨_, rfl⟩
 rw [← ht0] at m1
 have HKL : Hid (t0.kids.length = 0) := by
  show _ = _
  rw [ht0]; rfl
 have HTK : Hid (t0.kd = hd) := by
  show _ = _
  rw [ht0]; rfl
 have HT0 := qh ht0
 obtain ⟨p0, u0, ps0, hpe, hop⟩ := m1.opens
 have hpe2 : p0 = wk.heap.size := by simpa [nPtr] using hpe.symm
 obtain ⟨hk0, _, _, _, _⟩ := zzj hop.blk
 rw [HTK.out] at hk0
 have hkl0 := zzz hop.blk
 rw [hpe2] at hop hk0 hkl0
 have HOP0 := qh hop
 have HRn := qh m2
 have HAn := qh m3
 clear m1 m2 m3 hop hpe ht0
 obtain ⟨wn, hwn⟩ : ∃ wn, wn = wk.alloc (zzk hd zzx 0 (.slice none 0 0)) := ⟨_, rfl⟩
 rw [← hwn] at HOP0 HRn HAn hk0 hkl0
 rw [← hpe2] at HOP0 hk0 hkl0
 rw [← hwn, ← hpe2]
 clear hwn hpe2
 by_cases h11 : hd = 11
 ·
  rw [if_pos (Or.inl h11)] at HS; have b11 : (hd == 11) = true := beq_iff_eq.2 h11; clear h11; have HOP := qh HOP0.out; obtain ⟨hc3, hcf, hcl⟩ := HOP.out.cell; obtain ⟨ua, uc, hue⟩ := HOP.out.shape; subst hue
  cases hr : zq2 c.l F.vl d (i + 1) with
  | out =>
   rw [hr] at HS; simp only [zqj] at HS; exact absurd HS.out.symm HO.out
  | bad er p =>
   have HC := qh (zdv hF wn.drew d (i + 1) HRn.out.drew (by rw [hr]; nofun))
   rw [hr] at HC HS; simp only [zz6] at HS; clear hr; go_wp2_with fail; refine wp_region_any (by kernel_rfl) ?_; change wpAny _ _ _ _ _ _ _ (World.drew _); refine wt 0 (nPtr p0) ?_; refine wt 1 (nPtr p0) ?_
   refine wt 2 (nPtr p0) ?_; refine wt 3 (.pointer (some ⟨p0, 3, none⟩)) ?_; refine wt 5 (rPtr c) ?_; refine wt 6 (rPtr c) ?_; refine wt 7 (.func (.func 243) #[rPtr c] #[]) ?_
   refine wr2 4 8 (fun K hK => ?_) fun K hK => ?_
   ·
    go_simp; refine hK _ _ ?_; clear hK K; refine wr1 8 fun K hK => ?_; go_simp; refine cm HC.out ?_; intro e w' hp; obtain ⟨rfl, ha⟩ := hp; exact ⟨rfl, zq7 HS.out.symm (HAn.out.drew.next ha)⟩
   ·
    go_simp; refine cm HC.out ?_; intro e w' hp; obtain ⟨rfl, ha⟩ := hp; exact ⟨rfl, zq7 HS.out.symm (HAn.out.drew.next ha)⟩
  | ok tx1 jx =>
   have HC := qh (zdv hF wn.drew d (i + 1) HRn.out.drew (by rw [hr]; nofun))
   rw [hr] at HC HS; simp only [zzv] at HS; clear hr; go_wp2_with fail; refine via2 (H := fun wc pc => Ap c.R wn.heap.size wn wc ∧ Rdr c wc jx d ∧ NAt (From wn.heap.size) wc tx1 pc) (G := ?G1) (fun CONT => ?_) ?_
   rotate_left
   ·
    refine wp_region_any (by kernel_rfl) ?_; change wpAny _ _ _ _ _ _ _ (World.drew _); refine wt 0 (nPtr p0) ?_; refine wt 1 (nPtr p0) ?_; refine wt 2 (nPtr p0) ?_; refine wt 3 (.pointer (some ⟨p0, 3, none⟩)) ?_
    refine wt 5 (rPtr c) ?_; refine wt 6 (rPtr c) ?_; refine wt 7 (.func (.func 243) #[rPtr c] #[]) ?_; refine wr2 4 8 (fun K hK => ?_) fun K hK => ?_
    ·
     go_simp; refine hK _ _ ?_; clear hK K; refine wr1 8 fun K hK => ?_; go_simp; refine cm HC.out ?_; intro e wc hp; obtain ⟨⟨vc, rfl, pc, rfl, hnc⟩, hrd, ha⟩ := hp
     have ha0 := ((Ap.refl c.R wn.heap.size wn).drew).next ha; have HY : Hid (Ap c.R wn.heap.size wn wc ∧ Rdr c wc jx d ∧ NAt (From wn.heap.size) wc tx1 pc) := ⟨ha0, hrd, hnc⟩
     obtain ⟨gc3, gcf, gcl⟩ := (Open.later HOP.out ha0 HLT.out).cell; clear hrd ha ha0 hnc; refine hK _ _ ?_; clear hK K; refine wr1 9 fun K hK => ?_; go_simp; refine hK _ _ ?_; clear hK K
     refine zq9 (listed' := tf 10 4) (by kernel_rfl) rfl ?_; exact CONT wc pc HY.out
    ·
     go_simp; refine cm HC.out ?_; intro e wc hp; obtain ⟨⟨vc, rfl, pc, rfl, hnc⟩, hrd, ha⟩ := hp; have ha0 := ((Ap.refl c.R wn.heap.size wn).drew).next ha
     have HY : Hid (Ap c.R wn.heap.size wn wc ∧ Rdr c wc jx d ∧ NAt (From wn.heap.size) wc tx1 pc) := ⟨ha0, hrd, hnc⟩; obtain ⟨gc3, gcf, gcl⟩ := (Open.later HOP.out ha0 HLT.out).cell; clear hrd ha ha0 hnc; refine hK _ _ ?_
     clear hK K; refine wr2 4 9 (fun K hK => ?_) fun K hK => ?_
     ·
      go_simp; refine hK _ _ ?_; clear hK K; refine wr1 9 fun K hK => ?_; go_simp; refine hK _ _ ?_; clear hK K; exact wz 10 4 (CONT wc pc HY.out)
     ·
      go_simp; refine hK _ _ ?_; clear hK K; refine wr1 4 fun K hK => ?_; go_simp; refine hK _ _ ?_; clear hK K; exact wz 10 4 (CONT wc pc HY.out)
   intro wc pc hY; obtain ⟨ha0, hrd, hnc⟩ := hY; have HAc := qh (HAn.out.next ha0); have HRc := qh hrd; have HOc := qh (Open.later HOP.out ha0 HLT.out)
   have HNc := qh (Open.apart HOP.out HAn.out.size ha0 HLT.out (NAts.cons hnc NAts.nil)); obtain ⟨gc3, gcf, gcl⟩ := HOc.out.cell; clear hrd ha0 hnc; have hlen := NAts.length _ _ HOc.out.kids; have hown := HOc.out.row
   rw [hlen] at hown; have HOWN := qh hown; have hsz := HAc.out.size; have hkl : t0.kids.length ≤ 3 := by rw [HKL.out]; decide
   clear hown hlen; refine wr1 10 fun K hK => ?_
   refine step_append_lies _ rfl _ _ 46 rfl w.heap.size 22 i0 (.pointer none) 1 8 Tryz.underlying46 hi0 hz0 hz1 hz2 rfl (by decide) _ _ _ rfl (HOWN.out.alloc _) ⟨wc.heap.size, 0, none⟩ 1 1 [nPtr pc] rfl rfl (zq1 wc pc _ rfl) (zxv pc) (by decide) (by unfold maxLen; omega) (by omega) (by simp; omega) (wc.heap.size + 1) (by simp) ?_
   intro g cap w3 hown3 hgr3 hg3 _; refine hK _ _ ?_; clear hK K; have HP1 := qh (push1 HOc.out HNc.out HRc.out HAc.out HLO.out hown3 hgr3 hg3)
   have hp3 : w3.cell? ⟨p0, 3, none⟩ = wc.cell? ⟨p0, 3, none⟩ ∧ w3.frozen? ⟨p0, 3, none⟩ = wc.frozen? ⟨p0, 3, none⟩ := by
    have hbb : w3.heap[p0]? = wc.heap[p0]? := (hgr3.block p0 (by simp; omega) (fun e => HOc.out.own e.symm)).trans (Below.heap_alloc wc _ p0 gcl)
    exact ⟨World.cell?_of_block (w := wc) hbb, World.frozen?_of_block (w := wc) hbb⟩
   obtain ⟨hp3c, hp3f⟩ := hp3; rw [gc3] at hp3c; rw [gcf 3] at hp3f; clear hown3 hgr3 hg3; refine wt 11 (nPtr p0) ?_; refine wt 12 (.pointer (some ⟨p0, 3, none⟩)) ?_; refine wr1 13 fun K hK => ?_; go_simp; refine hK _ _ ?_
   clear hK K hp3c hp3f gc3 gcf gcl HOWN; refine wpAny_done (by kernel_rfl) ?_ _; go_simp; obtain ⟨m1, m2, m3⟩ := zzq HP1; have HM1 := qh m1; have HM2 := qh m2; have HM3 := qh m3; clear m1 m2 m3
   cases hr : zz0 c.l zz9 jx with
   | out =>
    rw [hr] at HS; simp only [zqj] at HS; exact absurd HS.out.symm HO.out
   | bad er p =>
    have HC := qh (zz7 c zz9 (w3.setCell ⟨p0, 3, none⟩ (.slice (some ⟨g, 0, none⟩) (t0.kids.length + 1) cap)) jx d HM2.out (by decide)); rw [hr] at HC HS; simp only [zz6] at HS; clear hr; go_wp2_with fail
    refine cm HC.out ?_; intro e w' hp; obtain ⟨rfl, ha⟩ := hp; exact ⟨rfl, zq7 HS.out.symm (HM3.out.next ha)⟩
   | ok x1 j1 =>
    have HC := qh (zz7 c zz9 (w3.setCell ⟨p0, 3, none⟩ (.slice (some ⟨g, 0, none⟩) (t0.kids.length + 1) cap)) jx d HM2.out (by decide)); rw [hr] at HC HS; simp only [zzv] at HS; clear hr; go_wp2_with fail
    refine cm HC.out ?_; intro e w1 hp; obtain ⟨⟨v1, rfl, rfl⟩, hrd, ha⟩ := hp; clear HC; have HA1 := qh (HM3.out.next ha); have HR1 := qh hrd; replace HM1 := qh (EV.later HM1.out ha HLT.out); clear hrd ha HM3 HM2
    have ht0 := zzq HT0; subst ht0; go_wp2_with fail; go_ret; exact ppOk HS.out.symm HM1.out.nv HR1.out HA1.out
 ·
  have b11 : (hd == 11) = false := beq_eq_false_iff_ne.2 h11; have HC := qh (zx3 c wn (i + 1) d HRn.out)
  by_cases hx : fx c.l (i + 1) = zz9
  ·
   rw [if_neg (fun hh => hh.elim h11 (fun h2 => h2 hx))] at HS; have bx : ((fx c.l (i + 1)).toList == [59]) = true := zfw (b := zz9) rfl hx; clear h11 hx; go_wp2_with fail; refine cm HC.out ?_; rintro e wf ⟨rfl, hbf⟩
   clear HC; have HRf := qh (HRn.out.later hbf); have HAf := qh (HAn.out.next (Ap.of hbf)); have HOP := qh (Open.later HOP0.out (Ap.of hbf) HLT.out); clear hbf hk0 hkl0; have HM1 := qh HOP.out.ev
   cases hr : zz0 c.l zz9 (i + 1) with
   | out =>
    rw [hr] at HS; simp only [zqj] at HS; exact absurd HS.out.symm HO.out
   | bad er p =>
    have HC := qh (zz7 c zz9 wf (i + 1) d HRf.out (by decide)); rw [hr] at HC HS; simp only [zz6] at HS; clear hr; go_wp2_with fail; refine cm HC.out ?_; intro e w' hp; obtain ⟨rfl, ha⟩ := hp
    exact ⟨rfl, zq7 HS.out.symm (HAf.out.next ha)⟩
   | ok x1 j1 =>
    have HC := qh (zz7 c zz9 wf (i + 1) d HRf.out (by decide)); rw [hr] at HC HS; simp only [zzv] at HS; clear hr; go_wp2_with fail; refine cm HC.out ?_; intro e w1 hp; obtain ⟨⟨v1, rfl, rfl⟩, hrd, ha⟩ := hp
    clear HC; have HA1 := qh (HAf.out.next ha); have HR1 := qh hrd; replace HM1 := qh (EV.later HM1.out ha HLT.out); clear hrd ha HAf HRf; have ht0 := zzq HT0; subst ht0; go_wp2_with fail; go_ret
    exact ppOk HS.out.symm HM1.out.nv HR1.out HA1.out
  ·
   rw [if_pos (Or.inr hx)] at HS; have bx : ((fx c.l (i + 1)).toList == [59]) = false := zf3 (b := zz9) rfl hx; clear h11 hx; go_wp2_with fail; refine cm HC.out ?_; rintro e wf ⟨rfl, hbf⟩; clear HC
   have HRf := qh (HRn.out.later hbf); have HAf := qh (HAn.out.next (Ap.of hbf)); have HOP := qh (Open.later HOP0.out (Ap.of hbf) HLT.out); clear hbf hk0 hkl0; obtain ⟨hc3, hcf, hcl⟩ := HOP.out.cell
   obtain ⟨ua, uc, hue⟩ := HOP.out.shape; subst hue
   cases hr : zq2 c.l F.vl d (i + 1) with
   | out =>
    rw [hr] at HS; simp only [zqj] at HS; exact absurd HS.out.symm HO.out
   | bad er p =>
    have HC := qh (zdv hF wf.drew d (i + 1) HRf.out.drew (by rw [hr]; nofun))
    rw [hr] at HC HS; simp only [zz6] at HS; clear hr; go_wp2_with fail; refine wp_region_any (by kernel_rfl) ?_; change wpAny _ _ _ _ _ _ _ (World.drew _); refine wt 0 (nPtr p0) ?_; refine wt 1 (nPtr p0) ?_
    refine wt 2 (nPtr p0) ?_; refine wt 3 (.pointer (some ⟨p0, 3, none⟩)) ?_; refine wt 5 (rPtr c) ?_; refine wt 6 (rPtr c) ?_; refine wt 7 (.func (.func 243) #[rPtr c] #[]) ?_
    refine wr2 4 8 (fun K hK => ?_) fun K hK => ?_
    ·
     go_simp; refine hK _ _ ?_; clear hK K; refine wr1 8 fun K hK => ?_; go_simp; refine cm HC.out ?_; intro e w' hp; obtain ⟨rfl, ha⟩ := hp; exact ⟨rfl, zq7 HS.out.symm (HAf.out.drew.next ha)⟩
    ·
     go_simp; refine cm HC.out ?_; intro e w' hp; obtain ⟨rfl, ha⟩ := hp; exact ⟨rfl, zq7 HS.out.symm (HAf.out.drew.next ha)⟩
   | ok tx1 jx =>
    have HC := qh (zdv hF wf.drew d (i + 1) HRf.out.drew (by rw [hr]; nofun))
    rw [hr] at HC HS; simp only [zzv] at HS; clear hr; go_wp2_with fail; refine via2 (H := fun wc pc => Ap c.R wf.heap.size wf wc ∧ Rdr c wc jx d ∧ NAt (From wf.heap.size) wc tx1 pc) (G := ?G2) (fun CONT => ?_) ?_
    rotate_left
    ·
     refine wp_region_any (by kernel_rfl) ?_; change wpAny _ _ _ _ _ _ _ (World.drew _); refine wt 0 (nPtr p0) ?_; refine wt 1 (nPtr p0) ?_; refine wt 2 (nPtr p0) ?_; refine wt 3 (.pointer (some ⟨p0, 3, none⟩)) ?_
     refine wt 5 (rPtr c) ?_; refine wt 6 (rPtr c) ?_; refine wt 7 (.func (.func 243) #[rPtr c] #[]) ?_; refine wr2 4 8 (fun K hK => ?_) fun K hK => ?_
     ·
      go_simp; refine hK _ _ ?_; clear hK K; refine wr1 8 fun K hK => ?_; go_simp; refine cm HC.out ?_; intro e wc hp; obtain ⟨⟨vc, rfl, pc, rfl, hnc⟩, hrd, ha⟩ := hp
      have ha0 := ((Ap.refl c.R wf.heap.size wf).drew).next ha; have HY : Hid (Ap c.R wf.heap.size wf wc ∧ Rdr c wc jx d ∧ NAt (From wf.heap.size) wc tx1 pc) := ⟨ha0, hrd, hnc⟩
      obtain ⟨gc3, gcf, gcl⟩ := (Open.later HOP.out ha0 HLT.out).cell; clear hrd ha ha0 hnc; refine hK _ _ ?_; clear hK K; refine wr1 9 fun K hK => ?_; go_simp; refine hK _ _ ?_; clear hK K
      refine zq9 (listed' := tf 10 4) (by kernel_rfl) rfl ?_; exact CONT wc pc HY.out
     ·
      go_simp; refine cm HC.out ?_; intro e wc hp; obtain ⟨⟨vc, rfl, pc, rfl, hnc⟩, hrd, ha⟩ := hp; have ha0 := ((Ap.refl c.R wf.heap.size wf).drew).next ha
      have HY : Hid (Ap c.R wf.heap.size wf wc ∧ Rdr c wc jx d ∧ NAt (From wf.heap.size) wc tx1 pc) := ⟨ha0, hrd, hnc⟩; obtain ⟨gc3, gcf, gcl⟩ := (Open.later HOP.out ha0 HLT.out).cell; clear hrd ha ha0 hnc
      refine hK _ _ ?_; clear hK K; refine wr2 4 9 (fun K hK => ?_) fun K hK => ?_
      ·
       go_simp; refine hK _ _ ?_; clear hK K; refine wr1 9 fun K hK => ?_; go_simp; refine hK _ _ ?_; clear hK K; exact wz 10 4 (CONT wc pc HY.out)
      ·
       go_simp; refine hK _ _ ?_; clear hK K; refine wr1 4 fun K hK => ?_; go_simp; refine hK _ _ ?_; clear hK K; exact wz 10 4 (CONT wc pc HY.out)
    intro wc pc hY; obtain ⟨ha0, hrd, hnc⟩ := hY; have HAc := qh (HAf.out.next ha0); have HRc := qh hrd; have HOc := qh (Open.later HOP.out ha0 HLT.out)
    have HNc := qh (Open.apart HOP.out HAf.out.size ha0 HLT.out (NAts.cons hnc NAts.nil)); obtain ⟨gc3, gcf, gcl⟩ := HOc.out.cell; clear hrd ha0 hnc; have hlen := NAts.length _ _ HOc.out.kids; have hown := HOc.out.row
    rw [hlen] at hown; have HOWN := qh hown; have hsz := HAc.out.size; have hkl : t0.kids.length ≤ 3 := by rw [HKL.out]; decide
    clear hown hlen; refine wr1 10 fun K hK => ?_
    refine step_append_lies _ rfl _ _ 46 rfl w.heap.size 22 i0 (.pointer none) 1 8 Tryz.underlying46 hi0 hz0 hz1 hz2 rfl (by decide) _ _ _ rfl (HOWN.out.alloc _) ⟨wc.heap.size, 0, none⟩ 1 1 [nPtr pc] rfl rfl (zq1 wc pc _ rfl) (zxv pc) (by decide) (by unfold maxLen; omega) (by omega) (by simp; omega) (wc.heap.size + 1) (by simp) ?_
    intro g cap w3 hown3 hgr3 hg3 _; refine hK _ _ ?_; clear hK K; have HP1 := qh (push1 HOc.out HNc.out HRc.out HAc.out HLO.out hown3 hgr3 hg3)
    have hp3 : w3.cell? ⟨p0, 3, none⟩ = wc.cell? ⟨p0, 3, none⟩ ∧ w3.frozen? ⟨p0, 3, none⟩ = wc.frozen? ⟨p0, 3, none⟩ := by
     have hbb : w3.heap[p0]? = wc.heap[p0]? := (hgr3.block p0 (by simp; omega) (fun e => HOc.out.own e.symm)).trans (Below.heap_alloc wc _ p0 gcl)
     exact ⟨World.cell?_of_block (w := wc) hbb, World.frozen?_of_block (w := wc) hbb⟩
    obtain ⟨hp3c, hp3f⟩ := hp3; rw [gc3] at hp3c; rw [gcf 3] at hp3f; clear hown3 hgr3 hg3; refine wt 11 (nPtr p0) ?_; refine wt 12 (.pointer (some ⟨p0, 3, none⟩)) ?_; refine wr1 13 fun K hK => ?_; go_simp
    refine hK _ _ ?_; clear hK K hp3c hp3f gc3 gcf gcl HOWN; refine wpAny_done (by kernel_rfl) ?_ _; go_simp; obtain ⟨m1, m2, m3⟩ := zzq HP1; have HM1 := qh m1; have HM2 := qh m2; have HM3 := qh m3; clear m1 m2 m3
    cases hr : zz0 c.l zz9 jx with
    | out =>
     rw [hr] at HS; simp only [zqj] at HS; exact absurd HS.out.symm HO.out
    | bad er p =>
     have HC := qh (zz7 c zz9 (w3.setCell ⟨p0, 3, none⟩ (.slice (some ⟨g, 0, none⟩) (t0.kids.length + 1) cap)) jx d HM2.out (by decide)); rw [hr] at HC HS; simp only [zz6] at HS; clear hr; go_wp2_with fail
     refine cm HC.out ?_; intro e w' hp; obtain ⟨rfl, ha⟩ := hp; exact ⟨rfl, zq7 HS.out.symm (HM3.out.next ha)⟩
    | ok x1 j1 =>
     have HC := qh (zz7 c zz9 (w3.setCell ⟨p0, 3, none⟩ (.slice (some ⟨g, 0, none⟩) (t0.kids.length + 1) cap)) jx d HM2.out (by decide)); rw [hr] at HC HS; simp only [zzv] at HS; clear hr; go_wp2_with fail
     refine cm HC.out ?_; intro e w1 hp; obtain ⟨⟨v1, rfl, rfl⟩, hrd, ha⟩ := hp; clear HC; have HA1 := qh (HM3.out.next ha); have HR1 := qh hrd; replace HM1 := qh (EV.later HM1.out ha HLT.out); clear hrd ha HM3 HM2
     have ht0 := zzq HT0; subst ht0; go_wp2_with fail; go_ret; exact ppOk HS.out.symm HM1.out.nv HR1.out HA1.out
theorem decl_any {c : Ctx} {F : Fns} (hF : FC c F) (w : World) (d i : Nat) (r : PR Tr) (hk : (tkA c.l i).kd ≠ 6) (hs : zf0 c.l F d i = r) (ho : r ≠ .out) (h : Rdr c w i d) : Calls Tryz.prog 163 #[rPtr c] w (zk3 c w d (NV w.heap.size) r) := by
 have hmf := zk2 c.R 243
 have HKD := qh hk
 have HLO := qh h.base.size
 obtain ⟨i0, hi0, hz0, hz1, hz2⟩ := info_parts zk0
 clear hk
 have HR0 := qh h
 have HA0 := qh (Ap.refl c.R w.heap.size w)
 have HLT := qh h.rlt
 unfold zf0 at hs
 have HS := qh hs
 have HO := qh ho
 clear h hs ho
 go_enter Tryz.func163, Tryz.ntmps163
 obtain ⟨hd, hhd⟩ : ∃ hd, hd = zk9 (tkA c.l i).tx := ⟨_, rfl⟩
 rw [← hhd] at HS
 have HC := qh (kind_any c w i d HR0.out HKD.out)
 rw [← hhd] at HC
 clear hhd
 go_wp2_with fail
 refine cm HC.out ?_
 rintro e wk ⟨rfl, hrk, hak⟩
 clear HC
 have HRk := qh hrk
 have HAk := qh (HA0.out.next hak)
 clear hrk hak HR0 HA0
 cases hr : zjq c.l (i + 1) with
 | out =>
  rw [hr] at HS; simp only [zqj] at HS; exact absurd HS.out.symm HO.out
 | bad er p =>
  have HC := qh (zk1 c wk (i + 1) d HRk.out); rw [hr] at HC HS; simp only [zz6] at HS; clear hr; go_wp2_with fail; refine cm HC.out ?_; intro e w' hp; obtain ⟨rfl, ha⟩ := hp
  exact ⟨rfl, zq7 HS.out.symm (HAk.out.next ha)⟩
 | ok x1 j1 =>
  have HC := qh (zk1 c wk (i + 1) d HRk.out); rw [hr] at HC HS; simp only [zzv] at HS; clear hr; go_wp2_with fail; refine cm HC.out ?_; intro e w1 hp; obtain ⟨⟨v1, rfl, rfl⟩, hrd, ha⟩ := hp; clear HC
  have HA1 := qh (HAk.out.next ha); have HR1 := qh hrd; clear hrd ha HAk HRk; have HC := qh (zqk hd x1 (.slice none 0 0) w1 ⟨_, _, _, rfl⟩); go_wp2_with fail; refine cm HC.out ?_; rintro e wn0 ⟨rfl, rfl⟩
  clear HC; obtain ⟨m1, m2, m3⟩ := made0 HR1.out HA1.out (KV.nil _ _) hd x1 _ rfl; obtain ⟨t0, ht0⟩ : ∃ t0 : Tr, t0 = .mk hd x1 0 [] := ⟨_, rfl⟩; rw [← ht0] at m1; have HKL : Hid (t0.kids.length = 0) := by
   show _ = _
   rw [ht0]; rfl
  have HTK : Hid (t0.kd = hd) := by
   show _ = _
   rw [ht0]; rfl
  have HT0 := qh ht0; obtain ⟨p0, u0, ps0, hpe, hop⟩ := m1.opens; have hpe2 : p0 = w1.heap.size := by simpa [nPtr] using hpe.symm
  obtain ⟨hk0, _, _, _, _⟩ := zzj hop.blk; rw [HTK.out] at hk0; have hkl0 := zzz hop.blk; rw [hpe2] at hop hk0 hkl0; have HOP0 := qh hop; have HRn := qh m2; have HAn := qh m3; clear m1 m2 m3 hop hpe ht0
  obtain ⟨wn, hwn⟩ : ∃ wn, wn = w1.alloc (zzk hd x1 0 (.slice none 0 0)) := ⟨_, rfl⟩; rw [← hwn] at HOP0 HRn HAn hk0 hkl0; rw [← hpe2] at HOP0 hk0 hkl0; rw [← hwn, ← hpe2]; clear hwn hpe2
  by_cases h4 : hd = 4
  ·
   have b4 : (hd == 4) = true := beq_iff_eq.2 h4; have HC := qh (zx3 c wn j1 d HRn.out)
   by_cases hx : fx c.l j1 = tEq
   ·
    rw [if_neg (fun hh => hh.2 hx)] at HS; have bx : ((fx c.l j1).toList == [61]) = true := zfw (b := tEq) rfl hx; clear h4; go_wp2_with fail; refine cm HC.out ?_; rintro e wf ⟨rfl, hbf⟩; clear HC
    have HRf := qh (HRn.out.later hbf); have HAf := qh (HAn.out.next (Ap.of hbf)); have HOP := qh (Open.later HOP0.out (Ap.of hbf) HLT.out); clear hbf hk0 hkl0; clear hx
    by_cases hy : fx c.l j1 = tEq
    ·
     rw [if_pos hy] at HS; have HC := qh (zkv c tEq wf j1 d HRf.out hy (by decide)); clear hy; go_wp2_with fail; refine cm HC.out ?_; rintro e wy ⟨rfl, hry, hay⟩; clear HC; have HRy := qh hry
     have HAy := qh (HAf.out.next hay); replace HOP := qh (Open.later HOP.out hay HLT.out); clear hry hay; obtain ⟨hc3, hcf, hcl⟩ := HOP.out.cell; obtain ⟨ua, uc, hue⟩ := HOP.out.shape; subst hue
     cases hr : zq2 c.l F.vl d (j1 + 1) with
     | out =>
      rw [hr] at HS; simp only [zqj] at HS; exact absurd HS.out.symm HO.out
     | bad er p =>
      have HC := qh (zdv hF wy.drew d (j1 + 1) HRy.out.drew (by rw [hr]; nofun))
      rw [hr] at HC HS; simp only [zz6] at HS; clear hr; go_wp2_with fail; refine wp_region_any (by kernel_rfl) ?_; change wpAny _ _ _ _ _ _ _ (World.drew _); refine wt 0 (nPtr p0) ?_; refine wt 1 (nPtr p0) ?_
      refine wt 2 (nPtr p0) ?_; refine wt 3 (.pointer (some ⟨p0, 3, none⟩)) ?_; refine wt 5 (rPtr c) ?_; refine wt 6 (rPtr c) ?_; refine wt 7 (.func (.func 243) #[rPtr c] #[]) ?_
      refine wr2 4 8 (fun K hK => ?_) fun K hK => ?_
      ·
       go_simp; refine hK _ _ ?_; clear hK K; refine wr1 8 fun K hK => ?_; go_simp; refine cm HC.out ?_; intro e w' hp; obtain ⟨rfl, ha⟩ := hp; exact ⟨rfl, zq7 HS.out.symm (HAy.out.drew.next ha)⟩
      ·
       go_simp; refine cm HC.out ?_; intro e w' hp; obtain ⟨rfl, ha⟩ := hp; exact ⟨rfl, zq7 HS.out.symm (HAy.out.drew.next ha)⟩
     | ok tx1 jx =>
      have HC := qh (zdv hF wy.drew d (j1 + 1) HRy.out.drew (by rw [hr]; nofun))
      rw [hr] at HC HS; simp only [zzv] at HS; clear hr; go_wp2_with fail; refine via2 (H := fun wc pc => Ap c.R wy.heap.size wy wc ∧ Rdr c wc jx d ∧ NAt (From wy.heap.size) wc tx1 pc) (G := ?G1) (fun CONT => ?_) ?_
      rotate_left
      ·
       refine wp_region_any (by kernel_rfl) ?_; change wpAny _ _ _ _ _ _ _ (World.drew _); refine wt 0 (nPtr p0) ?_; refine wt 1 (nPtr p0) ?_; refine wt 2 (nPtr p0) ?_; refine wt 3 (.pointer (some ⟨p0, 3, none⟩)) ?_
       refine wt 5 (rPtr c) ?_; refine wt 6 (rPtr c) ?_; refine wt 7 (.func (.func 243) #[rPtr c] #[]) ?_; refine wr2 4 8 (fun K hK => ?_) fun K hK => ?_
       ·
        go_simp; refine hK _ _ ?_; clear hK K; refine wr1 8 fun K hK => ?_; go_simp; refine cm HC.out ?_; intro e wc hp; obtain ⟨⟨vc, rfl, pc, rfl, hnc⟩, hrd, ha⟩ := hp
        have ha0 := ((Ap.refl c.R wy.heap.size wy).drew).next ha; have HY : Hid (Ap c.R wy.heap.size wy wc ∧ Rdr c wc jx d ∧ NAt (From wy.heap.size) wc tx1 pc) := ⟨ha0, hrd, hnc⟩
        obtain ⟨gc3, gcf, gcl⟩ := (Open.later HOP.out ha0 HLT.out).cell; clear hrd ha ha0 hnc; refine hK _ _ ?_; clear hK K; refine wr1 9 fun K hK => ?_; go_simp; refine hK _ _ ?_; clear hK K
        refine zq9 (listed' := tf 10 4) (by kernel_rfl) rfl ?_; exact CONT wc pc HY.out
       ·
        go_simp; refine cm HC.out ?_; intro e wc hp; obtain ⟨⟨vc, rfl, pc, rfl, hnc⟩, hrd, ha⟩ := hp; have ha0 := ((Ap.refl c.R wy.heap.size wy).drew).next ha
        have HY : Hid (Ap c.R wy.heap.size wy wc ∧ Rdr c wc jx d ∧ NAt (From wy.heap.size) wc tx1 pc) := ⟨ha0, hrd, hnc⟩; obtain ⟨gc3, gcf, gcl⟩ := (Open.later HOP.out ha0 HLT.out).cell; clear hrd ha ha0 hnc
        refine hK _ _ ?_; clear hK K; refine wr2 4 9 (fun K hK => ?_) fun K hK => ?_
        ·
         go_simp; refine hK _ _ ?_; clear hK K; refine wr1 9 fun K hK => ?_; go_simp; refine hK _ _ ?_; clear hK K; exact wz 10 4 (CONT wc pc HY.out)
        ·
         go_simp; refine hK _ _ ?_; clear hK K; refine wr1 4 fun K hK => ?_; go_simp; refine hK _ _ ?_; clear hK K; exact wz 10 4 (CONT wc pc HY.out)
      intro wc pc hY; obtain ⟨ha0, hrd, hnc⟩ := hY; have HAc := qh (HAy.out.next ha0); have HRc := qh hrd; have HOc := qh (Open.later HOP.out ha0 HLT.out)
      have HNc := qh (Open.apart HOP.out HAy.out.size ha0 HLT.out (NAts.cons hnc NAts.nil)); obtain ⟨gc3, gcf, gcl⟩ := HOc.out.cell; clear hrd ha0 hnc; have hlen := NAts.length _ _ HOc.out.kids; have hown := HOc.out.row
      rw [hlen] at hown; have HOWN := qh hown; have hsz := HAc.out.size; have hkl : t0.kids.length ≤ 3 := by rw [HKL.out]; decide
      clear hown hlen; refine wr1 10 fun K hK => ?_
      refine step_append_lies _ rfl _ _ 46 rfl w.heap.size 22 i0 (.pointer none) 1 8 Tryz.underlying46 hi0 hz0 hz1 hz2 rfl (by decide) _ _ _ rfl (HOWN.out.alloc _) ⟨wc.heap.size, 0, none⟩ 1 1 [nPtr pc] rfl rfl (zq1 wc pc _ rfl) (zxv pc) (by decide) (by unfold maxLen; omega) (by omega) (by simp; omega) (wc.heap.size + 1) (by simp) ?_
      intro g cap w3 hown3 hgr3 hg3 _; refine hK _ _ ?_; clear hK K; have HP1 := qh (push1 HOc.out HNc.out HRc.out HAc.out HLO.out hown3 hgr3 hg3)
      have hp3 : w3.cell? ⟨p0, 3, none⟩ = wc.cell? ⟨p0, 3, none⟩ ∧ w3.frozen? ⟨p0, 3, none⟩ = wc.frozen? ⟨p0, 3, none⟩ := by
       have hbb : w3.heap[p0]? = wc.heap[p0]? := (hgr3.block p0 (by simp; omega) (fun e => HOc.out.own e.symm)).trans (Below.heap_alloc wc _ p0 gcl)
       exact ⟨World.cell?_of_block (w := wc) hbb, World.frozen?_of_block (w := wc) hbb⟩
      obtain ⟨hp3c, hp3f⟩ := hp3; rw [gc3] at hp3c; rw [gcf 3] at hp3f; clear hown3 hgr3 hg3; refine wt 11 (nPtr p0) ?_; refine wt 12 (.pointer (some ⟨p0, 3, none⟩)) ?_; refine wr1 13 fun K hK => ?_; go_simp
      refine hK _ _ ?_; clear hK K hp3c hp3f gc3 gcf gcl HOWN; refine wpAny_done (by kernel_rfl) ?_ _; go_simp; obtain ⟨m1, m2, m3⟩ := zzq HP1; have HM1 := qh m1; have HM2 := qh m2; have HM3 := qh m3
      clear m1 m2 m3
      cases hr : zz0 c.l zz9 jx with
      | out =>
       rw [hr] at HS; simp only [zqj] at HS; exact absurd HS.out.symm HO.out
      | bad er p =>
       have HC := qh (zz7 c zz9 (w3.setCell ⟨p0, 3, none⟩ (.slice (some ⟨g, 0, none⟩) (t0.kids.length + 1) cap)) jx d HM2.out (by decide)); rw [hr] at HC HS; simp only [zz6] at HS; clear hr; go_wp2_with fail
       refine cm HC.out ?_; intro e w' hp; obtain ⟨rfl, ha⟩ := hp; exact ⟨rfl, zq7 HS.out.symm (HM3.out.next ha)⟩
      | ok x2 j2 =>
       have HC := qh (zz7 c zz9 (w3.setCell ⟨p0, 3, none⟩ (.slice (some ⟨g, 0, none⟩) (t0.kids.length + 1) cap)) jx d HM2.out (by decide)); rw [hr] at HC HS; simp only [zzv] at HS; clear hr; go_wp2_with fail
       refine cm HC.out ?_; intro e w2 hp; obtain ⟨⟨v2, rfl, rfl⟩, hrd, ha⟩ := hp; clear HC; have HA2 := qh (HM3.out.next ha); have HR2 := qh hrd; replace HM1 := qh (EV.later HM1.out ha HLT.out); clear hrd ha HM3 HM2
       have ht0 := zzq HT0; subst ht0; go_wp2_with fail; go_ret; exact ppOk HS.out.symm HM1.out.nv HR2.out HA2.out
    ·
     rw [if_neg hy] at HS; have HC := qh (zwj c tEq wf j1 d HRf.out hy); clear hy; go_wp2_with fail; refine cm HC.out ?_; rintro e wy ⟨rfl, hby⟩; clear HC; have HRy := qh (HRf.out.later hby)
     have HAy := qh (HAf.out.next (Ap.of hby)); have HM1 := qh (Open.later HOP.out (Ap.of hby) HLT.out).ev; clear hby
     cases hr : zz0 c.l zz9 j1 with
     | out =>
      rw [hr] at HS; simp only [zqj] at HS; exact absurd HS.out.symm HO.out
     | bad er p =>
      have HC := qh (zz7 c zz9 wy j1 d HRy.out (by decide)); rw [hr] at HC HS; simp only [zz6] at HS; clear hr; go_wp2_with fail; refine cm HC.out ?_; intro e w' hp; obtain ⟨rfl, ha⟩ := hp
      exact ⟨rfl, zq7 HS.out.symm (HAy.out.next ha)⟩
     | ok x2 j2 =>
      have HC := qh (zz7 c zz9 wy j1 d HRy.out (by decide)); rw [hr] at HC HS; simp only [zzv] at HS; clear hr; go_wp2_with fail; refine cm HC.out ?_; intro e w2 hp; obtain ⟨⟨v2, rfl, rfl⟩, hrd, ha⟩ := hp
      clear HC; have HA2 := qh (HAy.out.next ha); have HR2 := qh hrd; replace HM1 := qh (EV.later HM1.out ha HLT.out); clear hrd ha HAy HRy; have ht0 := zzq HT0; subst ht0; go_wp2_with fail; go_ret
      exact ppOk HS.out.symm HM1.out.nv HR2.out HA2.out
   ·
    rw [if_pos ⟨h4, hx⟩] at HS; have bx : ((fx c.l j1).toList == [61]) = false := zf3 (b := tEq) rfl hx; clear h4 hx; go_wp2_with fail; refine cm HC.out ?_; rintro e wf ⟨rfl, hbf⟩; clear HC
    have HRf := qh (HRn.out.later hbf); have HAf := qh (HAn.out.next (Ap.of hbf)); have HOP := qh (Open.later HOP0.out (Ap.of hbf) HLT.out); clear hbf hk0 hkl0; have HC := qh (zby c 3 wf j1 d HRf.out)
    go_wp2_with fail; refine cm HC.out ?_; rintro e w9 ⟨rfl, hb9⟩; exact ⟨rfl, zq7 HS.out.symm (HAf.out.next (Ap.of hb9))⟩
  ·
   have b4 : (hd == 4) = false := beq_eq_false_iff_ne.2 h4; rw [if_neg (fun hh => h4 hh.1)] at HS; clear h4; have HOP := qh HOP0.out
   by_cases hy : fx c.l j1 = tEq
   ·
    rw [if_pos hy] at HS; have HC := qh (zkv c tEq wn j1 d HRn.out hy (by decide)); clear hy; go_wp2_with fail; refine cm HC.out ?_; rintro e wy ⟨rfl, hry, hay⟩; clear HC; have HRy := qh hry
    have HAy := qh (HAn.out.next hay); replace HOP := qh (Open.later HOP.out hay HLT.out); clear hry hay; obtain ⟨hc3, hcf, hcl⟩ := HOP.out.cell; obtain ⟨ua, uc, hue⟩ := HOP.out.shape; subst hue
    cases hr : zq2 c.l F.vl d (j1 + 1) with
    | out =>
     rw [hr] at HS; simp only [zqj] at HS; exact absurd HS.out.symm HO.out
    | bad er p =>
     have HC := qh (zdv hF wy.drew d (j1 + 1) HRy.out.drew (by rw [hr]; nofun))
     rw [hr] at HC HS; simp only [zz6] at HS; clear hr; go_wp2_with fail; refine wp_region_any (by kernel_rfl) ?_; change wpAny _ _ _ _ _ _ _ (World.drew _); refine wt 0 (nPtr p0) ?_; refine wt 1 (nPtr p0) ?_
     refine wt 2 (nPtr p0) ?_; refine wt 3 (.pointer (some ⟨p0, 3, none⟩)) ?_; refine wt 5 (rPtr c) ?_; refine wt 6 (rPtr c) ?_; refine wt 7 (.func (.func 243) #[rPtr c] #[]) ?_
     refine wr2 4 8 (fun K hK => ?_) fun K hK => ?_
     ·
      go_simp; refine hK _ _ ?_; clear hK K; refine wr1 8 fun K hK => ?_; go_simp; refine cm HC.out ?_; intro e w' hp; obtain ⟨rfl, ha⟩ := hp; exact ⟨rfl, zq7 HS.out.symm (HAy.out.drew.next ha)⟩
     ·
      go_simp; refine cm HC.out ?_; intro e w' hp; obtain ⟨rfl, ha⟩ := hp; exact ⟨rfl, zq7 HS.out.symm (HAy.out.drew.next ha)⟩
    | ok tx1 jx =>
     have HC := qh (zdv hF wy.drew d (j1 + 1) HRy.out.drew (by rw [hr]; nofun))
     rw [hr] at HC HS; simp only [zzv] at HS; clear hr; go_wp2_with fail; refine via2 (H := fun wc pc => Ap c.R wy.heap.size wy wc ∧ Rdr c wc jx d ∧ NAt (From wy.heap.size) wc tx1 pc) (G := ?G2) (fun CONT => ?_) ?_
     rotate_left
     ·
      refine wp_region_any (by kernel_rfl) ?_; change wpAny _ _ _ _ _ _ _ (World.drew _); refine wt 0 (nPtr p0) ?_; refine wt 1 (nPtr p0) ?_; refine wt 2 (nPtr p0) ?_; refine wt 3 (.pointer (some ⟨p0, 3, none⟩)) ?_
      refine wt 5 (rPtr c) ?_; refine wt 6 (rPtr c) ?_; refine wt 7 (.func (.func 243) #[rPtr c] #[]) ?_; refine wr2 4 8 (fun K hK => ?_) fun K hK => ?_
      ·
       go_simp; refine hK _ _ ?_; clear hK K; refine wr1 8 fun K hK => ?_; go_simp; refine cm HC.out ?_; intro e wc hp; obtain ⟨⟨vc, rfl, pc, rfl, hnc⟩, hrd, ha⟩ := hp
       have ha0 := ((Ap.refl c.R wy.heap.size wy).drew).next ha; have HY : Hid (Ap c.R wy.heap.size wy wc ∧ Rdr c wc jx d ∧ NAt (From wy.heap.size) wc tx1 pc) := ⟨ha0, hrd, hnc⟩
       obtain ⟨gc3, gcf, gcl⟩ := (Open.later HOP.out ha0 HLT.out).cell; clear hrd ha ha0 hnc; refine hK _ _ ?_; clear hK K; refine wr1 9 fun K hK => ?_; go_simp; refine hK _ _ ?_; clear hK K
       refine zq9 (listed' := tf 10 4) (by kernel_rfl) rfl ?_; exact CONT wc pc HY.out
      ·
       go_simp; refine cm HC.out ?_; intro e wc hp; obtain ⟨⟨vc, rfl, pc, rfl, hnc⟩, hrd, ha⟩ := hp; have ha0 := ((Ap.refl c.R wy.heap.size wy).drew).next ha
       have HY : Hid (Ap c.R wy.heap.size wy wc ∧ Rdr c wc jx d ∧ NAt (From wy.heap.size) wc tx1 pc) := ⟨ha0, hrd, hnc⟩; obtain ⟨gc3, gcf, gcl⟩ := (Open.later HOP.out ha0 HLT.out).cell; clear hrd ha ha0 hnc
       refine hK _ _ ?_; clear hK K; refine wr2 4 9 (fun K hK => ?_) fun K hK => ?_
       ·
        go_simp; refine hK _ _ ?_; clear hK K; refine wr1 9 fun K hK => ?_; go_simp; refine hK _ _ ?_; clear hK K; exact wz 10 4 (CONT wc pc HY.out)
       ·
        go_simp; refine hK _ _ ?_; clear hK K; refine wr1 4 fun K hK => ?_; go_simp; refine hK _ _ ?_; clear hK K; exact wz 10 4 (CONT wc pc HY.out)
     intro wc pc hY; obtain ⟨ha0, hrd, hnc⟩ := hY; have HAc := qh (HAy.out.next ha0); have HRc := qh hrd; have HOc := qh (Open.later HOP.out ha0 HLT.out)
     have HNc := qh (Open.apart HOP.out HAy.out.size ha0 HLT.out (NAts.cons hnc NAts.nil)); obtain ⟨gc3, gcf, gcl⟩ := HOc.out.cell; clear hrd ha0 hnc; have hlen := NAts.length _ _ HOc.out.kids; have hown := HOc.out.row
     rw [hlen] at hown; have HOWN := qh hown; have hsz := HAc.out.size; have hkl : t0.kids.length ≤ 3 := by rw [HKL.out]; decide
     clear hown hlen; refine wr1 10 fun K hK => ?_
     refine step_append_lies _ rfl _ _ 46 rfl w.heap.size 22 i0 (.pointer none) 1 8 Tryz.underlying46 hi0 hz0 hz1 hz2 rfl (by decide) _ _ _ rfl (HOWN.out.alloc _) ⟨wc.heap.size, 0, none⟩ 1 1 [nPtr pc] rfl rfl (zq1 wc pc _ rfl) (zxv pc) (by decide) (by unfold maxLen; omega) (by omega) (by simp; omega) (wc.heap.size + 1) (by simp) ?_
     intro g cap w3 hown3 hgr3 hg3 _; refine hK _ _ ?_; clear hK K; have HP1 := qh (push1 HOc.out HNc.out HRc.out HAc.out HLO.out hown3 hgr3 hg3)
     have hp3 : w3.cell? ⟨p0, 3, none⟩ = wc.cell? ⟨p0, 3, none⟩ ∧ w3.frozen? ⟨p0, 3, none⟩ = wc.frozen? ⟨p0, 3, none⟩ := by
      have hbb : w3.heap[p0]? = wc.heap[p0]? := (hgr3.block p0 (by simp; omega) (fun e => HOc.out.own e.symm)).trans (Below.heap_alloc wc _ p0 gcl)
      exact ⟨World.cell?_of_block (w := wc) hbb, World.frozen?_of_block (w := wc) hbb⟩
     obtain ⟨hp3c, hp3f⟩ := hp3; rw [gc3] at hp3c; rw [gcf 3] at hp3f; clear hown3 hgr3 hg3; refine wt 11 (nPtr p0) ?_; refine wt 12 (.pointer (some ⟨p0, 3, none⟩)) ?_; refine wr1 13 fun K hK => ?_; go_simp
     refine hK _ _ ?_; clear hK K hp3c hp3f gc3 gcf gcl HOWN; refine wpAny_done (by kernel_rfl) ?_ _; go_simp; obtain ⟨m1, m2, m3⟩ := zzq HP1; have HM1 := qh m1; have HM2 := qh m2; have HM3 := qh m3
     clear m1 m2 m3
     cases hr : zz0 c.l zz9 jx with
     | out =>
      rw [hr] at HS; simp only [zqj] at HS; exact absurd HS.out.symm HO.out
     | bad er p =>
      have HC := qh (zz7 c zz9 (w3.setCell ⟨p0, 3, none⟩ (.slice (some ⟨g, 0, none⟩) (t0.kids.length + 1) cap)) jx d HM2.out (by decide)); rw [hr] at HC HS; simp only [zz6] at HS; clear hr; go_wp2_with fail
      refine cm HC.out ?_; intro e w' hp; obtain ⟨rfl, ha⟩ := hp; exact ⟨rfl, zq7 HS.out.symm (HM3.out.next ha)⟩
     | ok x2 j2 =>
      have HC := qh (zz7 c zz9 (w3.setCell ⟨p0, 3, none⟩ (.slice (some ⟨g, 0, none⟩) (t0.kids.length + 1) cap)) jx d HM2.out (by decide)); rw [hr] at HC HS; simp only [zzv] at HS; clear hr; go_wp2_with fail
      refine cm HC.out ?_; intro e w2 hp; obtain ⟨⟨v2, rfl, rfl⟩, hrd, ha⟩ := hp; clear HC; have HA2 := qh (HM3.out.next ha); have HR2 := qh hrd; replace HM1 := qh (EV.later HM1.out ha HLT.out); clear hrd ha HM3 HM2
      have ht0 := zzq HT0; subst ht0; go_wp2_with fail; go_ret; exact ppOk HS.out.symm HM1.out.nv HR2.out HA2.out
   ·
    rw [if_neg hy] at HS; have HC := qh (zwj c tEq wn j1 d HRn.out hy); clear hy; go_wp2_with fail; refine cm HC.out ?_; rintro e wy ⟨rfl, hby⟩; clear HC; have HRy := qh (HRn.out.later hby)
    have HAy := qh (HAn.out.next (Ap.of hby)); have HM1 := qh (Open.later HOP.out (Ap.of hby) HLT.out).ev; clear hby
    cases hr : zz0 c.l zz9 j1 with
    | out =>
     rw [hr] at HS; simp only [zqj] at HS; exact absurd HS.out.symm HO.out
    | bad er p =>
     have HC := qh (zz7 c zz9 wy j1 d HRy.out (by decide)); rw [hr] at HC HS; simp only [zz6] at HS; clear hr; go_wp2_with fail; refine cm HC.out ?_; intro e w' hp; obtain ⟨rfl, ha⟩ := hp
     exact ⟨rfl, zq7 HS.out.symm (HAy.out.next ha)⟩
    | ok x2 j2 =>
     have HC := qh (zz7 c zz9 wy j1 d HRy.out (by decide)); rw [hr] at HC HS; simp only [zzv] at HS; clear hr; go_wp2_with fail; refine cm HC.out ?_; intro e w2 hp; obtain ⟨⟨v2, rfl, rfl⟩, hrd, ha⟩ := hp
     clear HC; have HA2 := qh (HAy.out.next ha); have HR2 := qh hrd; replace HM1 := qh (EV.later HM1.out ha HLT.out); clear hrd ha HAy HRy; have ht0 := zzq HT0; subst ht0; go_wp2_with fail; go_ret
     exact ppOk HS.out.symm HM1.out.nv HR2.out HA2.out
end Go.Proofs.YtoimgcjbcbhclaaGreatDoor
