/-
  try, with catch, or finally, or both.
-/
import Derived.Test.YtoimgcjbcbhclaaGreatDoorAo0
import Derived.Test.YtoimgcjbcbhclaaGreatDoorAo1
import Derived.Test.YtoimgcjbcbhclaaGreatDoorAo7
import Derived.Test.YtoimgcjbcbhclaaGreatDoorAo11
import Derived.Deep.MidRow
import Derived.Laws.AppendOwnNone
import Derived.Test.YtoimgcjbcbhclaaGreatDoorAo9
import Derived.Test.YtoimgcjbcbhclaaGreatDoorAo10
import Derived.Test.YtoimgcjbcbhclaaGreatDoorAo12
import Derived.Test.YtoimgcjbcbhclaaGreatDoorAo13
set_option maxRecDepth 100000
set_option maxHeartbeats 16000000
namespace Go.Proofs.YtoimgcjbcbhclaaGreatDoor
open Go.RowKit
theorem at_m {c : Ctx} (w : World) (d i : Nat) (h : Rdr c w i d) (er : Int) (p : Nat) (hm : mustP c.l tTry i = .bad er p) : Calls Tryz.prog 170 #[rPtr c] w (PPost c w d (NV w.heap.size) (.bad er p)) := by
 have HR0 := hide h
 have HA0 := hide (Ap.refl c.R w.heap.size w)
 clear h
 go_enter Tryz.func170, Tryz.ntmps170
 have HC := hide (must_any c tTry w i d HR0.out (by decide))
 rw [hm] at HC
 go_wp2_with fail
 refine cm HC.out ?_
 intro e w' hp
 obtain ⟨rfl, ha⟩ := hp
 exact ⟨rfl, ppBad rfl (HA0.out.next ha)⟩
section
variable {c : Ctx} {F : Fns} (hF : FC c F) (hN : ∃ k, FNx c.l k F) (w : World) (d i i0 : Nat) (h : Rdr c w i d) (hm : mustP c.l tTry i = .ok () i0) (b : Tr) (i1 : Nat) (hb : blockP c.l F d i0 = .ok b i1) (hc : fx c.l i1 = tCatch) (i2 : Nat) (h2 : mustP c.l tOpen (i1 + 1) = .ok () i2) (s : ByteArray) (i3 : Nat) (h3 : nameP c.l i2 = .ok s i3) (i4 : Nat) (h4 : mustP c.l tShut i3 = .ok () i4) (b2 : Tr) (i5 : Nat) (h5 : blockP c.l F d i4 = .ok b2 i5) (hf : fx c.l i5 = tFinally)
include c F hF hN w d i i0 h hm b i1 hb hc i2 h2 s i3 h3 i4 h4 b2 i5 h5 hf
theorem at_both (b3 : Tr) (i6 : Nat) (h6 : blockP c.l F d (i5 + 1) = .ok b3 i6) : Calls Tryz.prog 170 #[rPtr c] w (PPost c w d (NV w.heap.size) (.ok (.mk 12 noText 0 [b, .mk 13 s 0 [b2], .mk 14 noText 0 [b3]]) i6)) := by
 have HLO := hide h.base.size
 obtain ⟨i0', hi0, hz0, hz1, hz2⟩ := info_parts info22
 have HR0 := hide h
 have HA0 := hide (Ap.refl c.R w.heap.size w)
 have HLT := hide h.rlt
 clear h
 go_enter Tryz.func170, Tryz.ntmps170
 have HC := hide (must_any c tTry w i d HR0.out (by decide))
 rw [hm] at HC
 go_wp2_with fail
 refine cm HC.out ?_
 intro e wa hp
 obtain ⟨⟨va, rfl, rfl⟩, hrd, ha⟩ := hp
 clear HC
 have HRa := hide hrd
 have HAa := hide (HA0.out.next ha)
 clear hrd ha
 have HC := hide (block_any hF hN wa d i0 _ rfl (by rw [hb]; nofun) HRa.out)
 rw [hb] at HC
 go_wp2_with fail
 refine cm HC.out ?_
 intro e wb hp
 obtain ⟨⟨vb, rfl, hnb⟩, hrd, ha⟩ := hp
 clear HC
 have HRb := hide hrd
 have HAb := hide (HAa.out.next ha)
 obtain ⟨pb, rfl, hmb⟩ := (EV.mono hnb HAa.out.size).nv
 have HNb := hide hmb
 clear hnb hmb
 clear hrd ha
 have HC := hide (node_any 12 noText (.slice (some ⟨wb.heap.size, 0, none⟩) 1 1) (wb.alloc (.cells #[nPtr pb] 22)) ⟨_, _, _, rfl⟩)
 go_wp2_with fail
 refine cm HC.out ?_
 rintro e wn0 ⟨rfl, rfl⟩
 clear HC
 obtain ⟨m1, m2, m3⟩ := made HRb.out HAb.out (NAts.cons HNb.out NAts.nil) (by simp [maxLen]) #[nPtr pb] rfl 1 rfl 12 noText (wb.heap.size + 1) rfl
 obtain ⟨t0, ht0⟩ : ∃ t0 : Tr, t0 = .mk 12 noText 0 [b] := ⟨_, rfl⟩
 rw [← ht0] at m1
 have HKL : Hid (t0.kids.length = 1) := by
  show _ = _
  rw [ht0]; rfl
 have HT0 := hide ht0
 obtain ⟨p0, u0, ps0, hpe, hop⟩ := m1.opens
 have hpe2 : p0 = wb.heap.size + 1 := by simpa [nPtr] using hpe.symm
 rw [hpe2] at hop
 have HOP := hide hop
 have HRn := hide m2
 have HAn := hide m3
 clear m1 m2 m3 hop hpe ht0
 obtain ⟨wn, hwn⟩ : ∃ wn, wn = (wb.alloc (.cells #[nPtr pb] 22)).alloc (nodeObj 12 noText 0 (.slice (some ⟨wb.heap.size, 0, none⟩) 1 1)) := ⟨_, rfl⟩
 rw [← hwn] at HOP HRn HAn
 rw [← hpe2] at HOP
 rw [show (wb.alloc (.cells #[nPtr pb] 22)).heap.size = p0 by rw [hpe2]; simp, ← hwn]
 clear hwn hpe2
 have HC := hide (take_yes c tCatch wn i1 d HRn.out hc (by decide))
 go_wp2_with fail
 refine cm HC.out ?_
 rintro e wc ⟨rfl, hrd, ha⟩
 clear HC
 have HRc := hide hrd
 have HAc := hide (HAn.out.next ha)
 replace HOP := hide (Open.later HOP.out (ha) HLT.out)
 clear hrd ha
 have HC := hide (must_any c tOpen wc (i1 + 1) d HRc.out (by decide))
 rw [h2] at HC
 go_wp2_with fail
 refine cm HC.out ?_
 intro e wd hp
 obtain ⟨⟨vd, rfl, rfl⟩, hrd, ha⟩ := hp
 clear HC
 have HRd := hide hrd
 have HAd := hide (HAc.out.next ha)
 replace HOP := hide (Open.later HOP.out (ha) HLT.out)
 clear hrd ha
 have HC := hide (name_any c wd i2 d HRd.out)
 rw [h3] at HC
 go_wp2_with fail
 refine cm HC.out ?_
 intro e we hp
 obtain ⟨⟨ve, rfl, rfl⟩, hrd, ha⟩ := hp
 clear HC
 have HRe := hide hrd
 have HAe := hide (HAd.out.next ha)
 replace HOP := hide (Open.later HOP.out (ha) HLT.out)
 clear hrd ha
 have HC := hide (must_any c tShut we i3 d HRe.out (by decide))
 rw [h4] at HC
 go_wp2_with fail
 refine cm HC.out ?_
 intro e wg1 hp
 obtain ⟨⟨vg1, rfl, rfl⟩, hrd, ha⟩ := hp
 clear HC
 have HRg1 := hide hrd
 have HAg1 := hide (HAe.out.next ha)
 replace HOP := hide (Open.later HOP.out (ha) HLT.out)
 clear hrd ha
 have HCC := hide (block_any hF hN wg1.drew d i4 _ rfl (by rw [h5]; nofun) HRg1.out.drew)
 rw [h5] at HCC
 obtain ⟨hc3, hcf, hcl⟩ := HOP.out.cell
 obtain ⟨ua, uc, hue⟩ := HOP.out.shape
 subst hue
 go_wp2_with fail
 refine via2 (H := fun wc pc => Ap c.R wg1.heap.size wg1 wc ∧ Rdr c wc i5 d ∧ NAt (From wg1.heap.size) wc b2 pc) (G := ?G3) (fun CONT => ?_) ?_
 rotate_left
 ·
  exact zbaa
 intro wc pc hY
 obtain ⟨ha0, hrd, hmc⟩ := hY
 have HAc := hide (HAg1.out.next ha0)
 have HA0c := hide ha0
 have HRc := hide hrd
 have HOc := hide (Open.later HOP.out ha0 HLT.out)
 have HNc := hide hmc
 obtain ⟨gc3, gcf, gcl⟩ := HOc.out.cell
 have gcl1 : p0 < wc.heap.size + 1 := by omega
 have gcl2 : p0 < wc.heap.size + 1 + 1 := by omega
 clear hrd ha0 hmc
 obtain ⟨n1, n2, n3⟩ := made (w := wg1) HRc.out HA0c.out (NAts.cons HNc.out NAts.nil) (by simp [maxLen]) #[nPtr pc] rfl 1 rfl 13 s (wc.heap.size + 1) rfl
 have hbd : Below wc.heap.size wc ((wc.alloc (.cells #[nPtr pc] 22)).alloc (nodeObj 13 s 0 (.slice (some ⟨wc.heap.size, 0, none⟩) 1 1))) := ((Below.refl _ _).alloc (Nat.le_refl _) _).alloc (by simp) _
 obtain ⟨wd, hwd⟩ : ∃ wd, wd = (wc.alloc (.cells #[nPtr pc] 22)).alloc (nodeObj 13 s 0 (.slice (some ⟨wc.heap.size, 0, none⟩) 1 1)) := ⟨_, rfl⟩
 have hq : (wc.alloc (.cells #[nPtr pc] 22)).heap.size = wc.heap.size + 1 := by simp
 obtain ⟨q, hqq⟩ : ∃ q, q = wc.heap.size + 1 := ⟨_, rfl⟩
 obtain ⟨pq, hpq, hnq⟩ := n1.nv
 have hpe : pq = wc.heap.size + 1 := by simpa [nPtr] using hpq.symm
 subst hpe
 have hws : wd.heap.size = q + 1 := by rw [hwd, hqq]; simp
 rw [← hwd] at hnq n2 n3 hbd
 try rw [hq]
 rw [← hqq] at hnq
 try rw [← hqq]
 try rw [← hwd]
 have HOd := hide (Open.later HOc.out (Ap.of hbd) HLT.out)
 have HAd := hide (HAc.out.next (Ap.of hbd))
 have HRd := hide n2
 have HNd := hide (Open.apart HOP.out HAg1.out.size n3 HLT.out (NAts.cons hnq NAts.nil))
 obtain ⟨ec3, ecf, ecl⟩ := HOd.out.cell
 clear n1 n2 n3 hbd hnq hpq hwd hqq hq gc3 gcf gcl gcl1 gcl2
 have hlen := NAts.length _ _ HOd.out.kids
 have hown := HOd.out.row
 rw [hlen] at hown
 have HOWN := hide hown
 have hsz := HAd.out.size
 have hkl : t0.kids.length ≤ 3 := by rw [HKL.out]; decide
 clear hown hlen
 refine wr1 11 fun K hK => ?_
 refine step_append_lies _ rfl _ _ 46 rfl w.heap.size 22 i0' (.pointer none) 1 8 Tryz.underlying46 hi0 hz0 hz1 hz2 rfl (by decide) _ _ _ rfl (HOWN.out.alloc _) ⟨q + 1, 0, none⟩ 1 1 [nPtr q] rfl rfl (one_cells wd q _ hws) (one_one q) (by decide) (by unfold maxLen; omega) (by omega) (by simp; omega) (wd.heap.size + 1) (by simp) ?_
 clear hws
 intro g cap w3 hown3 hgr3 hg3 _
 refine hK _ _ ?_
 clear hK K
 have HP1 := hide (push1 HOd.out HNd.out HRd.out HAd.out HLO.out hown3 hgr3 hg3)
 have hp3 : w3.cell? ⟨p0, 3, none⟩ = wd.cell? ⟨p0, 3, none⟩ ∧ w3.frozen? ⟨p0, 3, none⟩ = wd.frozen? ⟨p0, 3, none⟩ := by
  exact zbbr
 obtain ⟨hp3c, hp3f⟩ := hp3
 rw [ec3] at hp3c
 rw [ecf 3] at hp3f
 clear hown3 hgr3 hg3
 refine wt 12 (nPtr p0) ?_
 refine wt 13 (.pointer (some ⟨p0, 3, none⟩)) ?_
 refine wr1 14 fun K hK => ?_
 go_simp
 refine hK _ _ ?_
 clear hK K hp3c hp3f ec3 ecf ecl HOWN
 refine wpAny_done (by kernel_rfl) ?_ _
 go_simp
 obtain ⟨m1, m2, m3⟩ := unhide HP1
 obtain ⟨t0x, ht2⟩ : ∃ tq : Tr, tq = .mk t0.kd t0.tx t0.n (t0.kids ++ [.mk 13 s 0 [b2]]) := ⟨_, rfl⟩
 rw [← ht2] at m1
 have HKLt0x : Hid (t0x.kids.length = t0.kids.length + 1) := by
  show _ = _
  rw [ht2]; simp [Tr.kids]
 have HTt0x := hide ht2
 obtain ⟨pz, uz, psz, hpz, hopz⟩ := m1.opens
 have hpz2 : pz = p0 := by simpa [nPtr] using hpz.symm
 rw [hpz2] at hopz
 obtain ⟨w4, hw4⟩ : ∃ w4, w4 = (w3.setCell ⟨p0, 3, none⟩ (.slice (some ⟨g, 0, none⟩) (t0.kids.length + 1) cap)) := ⟨_, rfl⟩
 rw [← hw4] at hopz m2 m3
 rw [← hw4]
 clear HOP
 have HOP := hide hopz
 have HR4C := hide m2
 have HA4C := hide m3
 clear m1 m2 m3 hopz hpz hw4 hpz2 ht2 HP1 HCC
 have HC := hide (take_yes c tFinally w4 i5 d HR4C.out hf (by decide))
 go_wp2_with fail
 refine cm HC.out ?_
 rintro e wz ⟨rfl, hrd, ha⟩
 clear HC
 have HRz := hide hrd
 have HAz := hide (HA4C.out.next ha)
 replace HOP := hide (Open.later HOP.out (ha) HLT.out)
 clear hrd ha
 have HKL2 : Hid (t0x.kids.length = 2) := by
  show _ = _
  rw [HKLt0x.out, HKL.out]
 have HCF := hide (block_any hF hN wz.drew d (i5 + 1) _ rfl (by rw [h6]; nofun) HRz.out.drew)
 rw [h6] at HCF
 obtain ⟨hc3, hcf, hcl⟩ := HOP.out.cell
 obtain ⟨ua, uc, hue⟩ := HOP.out.shape
 subst hue
 go_wp2_with fail
 refine via2 (H := fun wc pc => Ap c.R wz.heap.size wz wc ∧ Rdr c wc i6 d ∧ NAt (From wz.heap.size) wc b3 pc) (G := ?G4) (fun CONT => ?_) ?_
 rotate_left
 ·
  refine wp_region_any (by kernel_rfl) ?_; change wpAny _ _ _ _ _ _ _ (World.drew _); refine wt 0 (nPtr p0) ?_; refine wt 1 (nPtr p0) ?_; refine wt 2 (nPtr p0) ?_; refine wt 3 (.pointer (some ⟨p0, 3, none⟩)) ?_
  refine wt 5 (rPtr c) ?_; refine wr2 4 6 (fun K hK => ?_) fun K hK => ?_
  ·
   go_simp; refine hK _ _ ?_; clear hK K; refine wr1 6 fun K hK => ?_; go_simp; refine cm HCF.out ?_; intro e wc hp; obtain ⟨⟨vc, rfl, hnc⟩, hrd, ha⟩ := hp; obtain ⟨pc, rfl, hmc⟩ := hnc.nv
   have ha0 := ((Ap.refl c.R wz.heap.size wz).drew).next ha; have HY : Hid (Ap c.R wz.heap.size wz wc ∧ Rdr c wc i6 d ∧ NAt (From wz.heap.size) wc b3 pc) := ⟨ha0, hrd, hmc⟩; exact zcap
  ·
   go_simp; refine cm HCF.out ?_; intro e wc hp; obtain ⟨⟨vc, rfl, hnc⟩, hrd, ha⟩ := hp; obtain ⟨pc, rfl, hmc⟩ := hnc.nv; have ha0 := ((Ap.refl c.R wz.heap.size wz).drew).next ha
   have HY : Hid (Ap c.R wz.heap.size wz wc ∧ Rdr c wc i6 d ∧ NAt (From wz.heap.size) wc b3 pc) := ⟨ha0, hrd, hmc⟩; exact zcac
 intro wc pc hY
 obtain ⟨ha0, hrd, hmc⟩ := hY
 have HAc := hide (HAz.out.next ha0)
 have HA0c := hide ha0
 have HRc := hide hrd
 have HOc := hide (Open.later HOP.out ha0 HLT.out)
 have HNc := hide hmc
 obtain ⟨gc3, gcf, gcl⟩ := HOc.out.cell
 have gcl1 : p0 < wc.heap.size + 1 := by omega
 have gcl2 : p0 < wc.heap.size + 1 + 1 := by omega
 clear hrd ha0 hmc
 obtain ⟨n1, n2, n3⟩ := made (w := wz) HRc.out HA0c.out (NAts.cons HNc.out NAts.nil) (by simp [maxLen]) #[nPtr pc] rfl 1 rfl 14 noText (wc.heap.size + 1) rfl
 have hbd : Below wc.heap.size wc ((wc.alloc (.cells #[nPtr pc] 22)).alloc (nodeObj 14 noText 0 (.slice (some ⟨wc.heap.size, 0, none⟩) 1 1))) := ((Below.refl _ _).alloc (Nat.le_refl _) _).alloc (by simp) _
 obtain ⟨wd, hwd⟩ : ∃ wd, wd = (wc.alloc (.cells #[nPtr pc] 22)).alloc (nodeObj 14 noText 0 (.slice (some ⟨wc.heap.size, 0, none⟩) 1 1)) := ⟨_, rfl⟩
 have hq : (wc.alloc (.cells #[nPtr pc] 22)).heap.size = wc.heap.size + 1 := by simp
 obtain ⟨q, hqq⟩ : ∃ q, q = wc.heap.size + 1 := ⟨_, rfl⟩
 obtain ⟨pq, hpq, hnq⟩ := n1.nv
 have hpe : pq = wc.heap.size + 1 := by simpa [nPtr] using hpq.symm
 subst hpe
 have hws : wd.heap.size = q + 1 := by rw [hwd, hqq]; simp
 rw [← hwd] at hnq n2 n3 hbd
 try rw [hq]
 rw [← hqq] at hnq
 try rw [← hqq]
 try rw [← hwd]
 have HOd := hide (Open.later HOc.out (Ap.of hbd) HLT.out)
 have HAd := hide (HAc.out.next (Ap.of hbd))
 have HRd := hide n2
 have HNd := hide (Open.apart HOP.out HAz.out.size n3 HLT.out (NAts.cons hnq NAts.nil))
 obtain ⟨ec3, ecf, ecl⟩ := HOd.out.cell
 clear n1 n2 n3 hbd hnq hpq hwd hqq hq gc3 gcf gcl gcl1 gcl2
 have hlen := NAts.length _ _ HOd.out.kids
 have hown := HOd.out.row
 rw [hlen] at hown
 have HOWN := hide hown
 have hsz := HAd.out.size
 have hkl : t0x.kids.length ≤ 3 := by rw [HKL2.out]; decide
 clear hown hlen
 refine wr1 10 fun K hK => ?_
 refine step_append_lies _ rfl _ _ 46 rfl w.heap.size 22 i0' (.pointer none) 1 8 Tryz.underlying46 hi0 hz0 hz1 hz2 rfl (by decide) _ _ _ rfl (HOWN.out.alloc _) ⟨q + 1, 0, none⟩ 1 1 [nPtr q] rfl rfl (one_cells wd q _ hws) (one_one q) (by decide) (by unfold maxLen; omega) (by omega) (by simp; omega) (wd.heap.size + 1) (by simp) ?_
 clear hws
 intro g cap w3 hown3 hgr3 hg3 _
 refine hK _ _ ?_
 clear hK K
 have HP1 := hide (push1 HOd.out HNd.out HRd.out HAd.out HLO.out hown3 hgr3 hg3)
 have hp3 : w3.cell? ⟨p0, 3, none⟩ = wd.cell? ⟨p0, 3, none⟩ ∧ w3.frozen? ⟨p0, 3, none⟩ = wd.frozen? ⟨p0, 3, none⟩ := by
  exact zbbr
 obtain ⟨hp3c, hp3f⟩ := hp3
 rw [ec3] at hp3c
 rw [ecf 3] at hp3f
 clear hown3 hgr3 hg3
 refine wt 11 (nPtr p0) ?_
 refine wt 12 (.pointer (some ⟨p0, 3, none⟩)) ?_
 refine wr1 13 fun K hK => ?_
 go_simp
 refine hK _ _ ?_
 clear hK K hp3c hp3f ec3 ecf ecl HOWN
 refine wpAny_done (by kernel_rfl) ?_ _
 go_simp
 obtain ⟨m1, m2, m3⟩ := unhide HP1
 obtain ⟨t0xx, ht2⟩ : ∃ tq : Tr, tq = .mk t0x.kd t0x.tx t0x.n (t0x.kids ++ [.mk 14 noText 0 [b3]]) := ⟨_, rfl⟩
 rw [← ht2] at m1
 have HKLt0xx : Hid (t0xx.kids.length = t0x.kids.length + 1) := by
  show _ = _
  rw [ht2]; simp [Tr.kids]
 have HTt0xx := hide ht2
 obtain ⟨pz, uz, psz, hpz, hopz⟩ := m1.opens
 have hpz2 : pz = p0 := by simpa [nPtr] using hpz.symm
 rw [hpz2] at hopz
 obtain ⟨w4, hw4⟩ : ∃ w4, w4 = (w3.setCell ⟨p0, 3, none⟩ (.slice (some ⟨g, 0, none⟩) (t0x.kids.length + 1) cap)) := ⟨_, rfl⟩
 rw [← hw4] at hopz m2 m3
 rw [← hw4]
 clear HOP
 have HOP := hide hopz
 have HR4F := hide m2
 have HA4F := hide m3
 clear m1 m2 m3 hopz hpz hw4 hpz2 ht2 HP1 HCF
 obtain ⟨hc3, hcf, hcl⟩ := HOP.out.cell
 obtain ⟨ua, uc, hue⟩ := HOP.out.shape
 subst hue
 have hk2 : t0xx.kids.length = 3 := by rw [HKLt0xx.out, HKLt0x.out, HKL.out]
 rw [hk2] at hc3
 clear hk2
 go_wp2_with fail
 go_ret
 have e0 := unhide HT0
 have e1 := unhide HTt0x
 have e2 := unhide HTt0xx
 have hnv := HOP.out.ev.nv
 rw [e2, e1, e0] at hnv
 exact ppOk rfl hnv HR4F.out HA4F.out
theorem at_bothbad (er : Int) (p : Nat) (h6 : blockP c.l F d (i5 + 1) = .bad er p) : Calls Tryz.prog 170 #[rPtr c] w (PPost c w d (NV w.heap.size) (.bad er p)) := by
 have HLO := hide h.base.size
 obtain ⟨i0', hi0, hz0, hz1, hz2⟩ := info_parts info22
 have HR0 := hide h
 have HA0 := hide (Ap.refl c.R w.heap.size w)
 have HLT := hide h.rlt
 clear h
 go_enter Tryz.func170, Tryz.ntmps170
 have HC := hide (must_any c tTry w i d HR0.out (by decide))
 rw [hm] at HC
 go_wp2_with fail
 refine cm HC.out ?_
 intro e wa hp
 obtain ⟨⟨va, rfl, rfl⟩, hrd, ha⟩ := hp
 clear HC
 have HRa := hide hrd
 have HAa := hide (HA0.out.next ha)
 clear hrd ha
 have HC := hide (block_any hF hN wa d i0 _ rfl (by rw [hb]; nofun) HRa.out)
 rw [hb] at HC
 go_wp2_with fail
 refine cm HC.out ?_
 intro e wb hp
 obtain ⟨⟨vb, rfl, hnb⟩, hrd, ha⟩ := hp
 clear HC
 have HRb := hide hrd
 have HAb := hide (HAa.out.next ha)
 obtain ⟨pb, rfl, hmb⟩ := (EV.mono hnb HAa.out.size).nv
 have HNb := hide hmb
 clear hnb hmb
 clear hrd ha
 have HC := hide (node_any 12 noText (.slice (some ⟨wb.heap.size, 0, none⟩) 1 1) (wb.alloc (.cells #[nPtr pb] 22)) ⟨_, _, _, rfl⟩)
 go_wp2_with fail
 refine cm HC.out ?_
 rintro e wn0 ⟨rfl, rfl⟩
 clear HC
 obtain ⟨m1, m2, m3⟩ := made HRb.out HAb.out (NAts.cons HNb.out NAts.nil) (by simp [maxLen]) #[nPtr pb] rfl 1 rfl 12 noText (wb.heap.size + 1) rfl
 obtain ⟨t0, ht0⟩ : ∃ t0 : Tr, t0 = .mk 12 noText 0 [b] := ⟨_, rfl⟩
 rw [← ht0] at m1
 have HKL : Hid (t0.kids.length = 1) := by
  show _ = _
  rw [ht0]; rfl
 have HT0 := hide ht0
 obtain ⟨p0, u0, ps0, hpe, hop⟩ := m1.opens
 have hpe2 : p0 = wb.heap.size + 1 := by simpa [nPtr] using hpe.symm
 rw [hpe2] at hop
 have HOP := hide hop
 have HRn := hide m2
 have HAn := hide m3
 clear m1 m2 m3 hop hpe ht0
 obtain ⟨wn, hwn⟩ : ∃ wn, wn = (wb.alloc (.cells #[nPtr pb] 22)).alloc (nodeObj 12 noText 0 (.slice (some ⟨wb.heap.size, 0, none⟩) 1 1)) := ⟨_, rfl⟩
 rw [← hwn] at HOP HRn HAn
 rw [← hpe2] at HOP
 rw [show (wb.alloc (.cells #[nPtr pb] 22)).heap.size = p0 by rw [hpe2]; simp, ← hwn]
 clear hwn hpe2
 have HC := hide (take_yes c tCatch wn i1 d HRn.out hc (by decide))
 go_wp2_with fail
 refine cm HC.out ?_
 rintro e wc ⟨rfl, hrd, ha⟩
 clear HC
 have HRc := hide hrd
 have HAc := hide (HAn.out.next ha)
 replace HOP := hide (Open.later HOP.out (ha) HLT.out)
 clear hrd ha
 have HC := hide (must_any c tOpen wc (i1 + 1) d HRc.out (by decide))
 rw [h2] at HC
 go_wp2_with fail
 refine cm HC.out ?_
 intro e wd hp
 obtain ⟨⟨vd, rfl, rfl⟩, hrd, ha⟩ := hp
 clear HC
 have HRd := hide hrd
 have HAd := hide (HAc.out.next ha)
 replace HOP := hide (Open.later HOP.out (ha) HLT.out)
 clear hrd ha
 have HC := hide (name_any c wd i2 d HRd.out)
 rw [h3] at HC
 go_wp2_with fail
 refine cm HC.out ?_
 intro e we hp
 obtain ⟨⟨ve, rfl, rfl⟩, hrd, ha⟩ := hp
 clear HC
 have HRe := hide hrd
 have HAe := hide (HAd.out.next ha)
 replace HOP := hide (Open.later HOP.out (ha) HLT.out)
 clear hrd ha
 have HC := hide (must_any c tShut we i3 d HRe.out (by decide))
 rw [h4] at HC
 go_wp2_with fail
 refine cm HC.out ?_
 intro e wg1 hp
 obtain ⟨⟨vg1, rfl, rfl⟩, hrd, ha⟩ := hp
 clear HC
 have HRg1 := hide hrd
 have HAg1 := hide (HAe.out.next ha)
 replace HOP := hide (Open.later HOP.out (ha) HLT.out)
 clear hrd ha
 have HCC := hide (block_any hF hN wg1.drew d i4 _ rfl (by rw [h5]; nofun) HRg1.out.drew)
 rw [h5] at HCC
 obtain ⟨hc3, hcf, hcl⟩ := HOP.out.cell
 obtain ⟨ua, uc, hue⟩ := HOP.out.shape
 subst hue
 go_wp2_with fail
 refine via2 (H := fun wc pc => Ap c.R wg1.heap.size wg1 wc ∧ Rdr c wc i5 d ∧ NAt (From wg1.heap.size) wc b2 pc) (G := ?G5) (fun CONT => ?_) ?_
 rotate_left
 ·
  exact zbaa
 intro wc pc hY
 obtain ⟨ha0, hrd, hmc⟩ := hY
 have HAc := hide (HAg1.out.next ha0)
 have HA0c := hide ha0
 have HRc := hide hrd
 have HOc := hide (Open.later HOP.out ha0 HLT.out)
 have HNc := hide hmc
 obtain ⟨gc3, gcf, gcl⟩ := HOc.out.cell
 have gcl1 : p0 < wc.heap.size + 1 := by omega
 have gcl2 : p0 < wc.heap.size + 1 + 1 := by omega
 clear hrd ha0 hmc
 obtain ⟨n1, n2, n3⟩ := made (w := wg1) HRc.out HA0c.out (NAts.cons HNc.out NAts.nil) (by simp [maxLen]) #[nPtr pc] rfl 1 rfl 13 s (wc.heap.size + 1) rfl
 have hbd : Below wc.heap.size wc ((wc.alloc (.cells #[nPtr pc] 22)).alloc (nodeObj 13 s 0 (.slice (some ⟨wc.heap.size, 0, none⟩) 1 1))) := ((Below.refl _ _).alloc (Nat.le_refl _) _).alloc (by simp) _
 obtain ⟨wd, hwd⟩ : ∃ wd, wd = (wc.alloc (.cells #[nPtr pc] 22)).alloc (nodeObj 13 s 0 (.slice (some ⟨wc.heap.size, 0, none⟩) 1 1)) := ⟨_, rfl⟩
 have hq : (wc.alloc (.cells #[nPtr pc] 22)).heap.size = wc.heap.size + 1 := by simp
 obtain ⟨q, hqq⟩ : ∃ q, q = wc.heap.size + 1 := ⟨_, rfl⟩
 obtain ⟨pq, hpq, hnq⟩ := n1.nv
 have hpe : pq = wc.heap.size + 1 := by simpa [nPtr] using hpq.symm
 subst hpe
 have hws : wd.heap.size = q + 1 := by rw [hwd, hqq]; simp
 rw [← hwd] at hnq n2 n3 hbd
 try rw [hq]
 rw [← hqq] at hnq
 try rw [← hqq]
 try rw [← hwd]
 have HOd := hide (Open.later HOc.out (Ap.of hbd) HLT.out)
 have HAd := hide (HAc.out.next (Ap.of hbd))
 have HRd := hide n2
 have HNd := hide (Open.apart HOP.out HAg1.out.size n3 HLT.out (NAts.cons hnq NAts.nil))
 obtain ⟨ec3, ecf, ecl⟩ := HOd.out.cell
 clear n1 n2 n3 hbd hnq hpq hwd hqq hq gc3 gcf gcl gcl1 gcl2
 have hlen := NAts.length _ _ HOd.out.kids
 have hown := HOd.out.row
 rw [hlen] at hown
 have HOWN := hide hown
 have hsz := HAd.out.size
 have hkl : t0.kids.length ≤ 3 := by rw [HKL.out]; decide
 clear hown hlen
 refine wr1 11 fun K hK => ?_
 refine step_append_lies _ rfl _ _ 46 rfl w.heap.size 22 i0' (.pointer none) 1 8 Tryz.underlying46 hi0 hz0 hz1 hz2 rfl (by decide) _ _ _ rfl (HOWN.out.alloc _) ⟨q + 1, 0, none⟩ 1 1 [nPtr q] rfl rfl (one_cells wd q _ hws) (one_one q) (by decide) (by unfold maxLen; omega) (by omega) (by simp; omega) (wd.heap.size + 1) (by simp) ?_
 clear hws
 intro g cap w3 hown3 hgr3 hg3 _
 refine hK _ _ ?_
 clear hK K
 have HP1 := hide (push1 HOd.out HNd.out HRd.out HAd.out HLO.out hown3 hgr3 hg3)
 have hp3 : w3.cell? ⟨p0, 3, none⟩ = wd.cell? ⟨p0, 3, none⟩ ∧ w3.frozen? ⟨p0, 3, none⟩ = wd.frozen? ⟨p0, 3, none⟩ := by
  exact zbbr
 obtain ⟨hp3c, hp3f⟩ := hp3
 rw [ec3] at hp3c
 rw [ecf 3] at hp3f
 clear hown3 hgr3 hg3
 refine wt 12 (nPtr p0) ?_
 refine wt 13 (.pointer (some ⟨p0, 3, none⟩)) ?_
 refine wr1 14 fun K hK => ?_
 go_simp
 refine hK _ _ ?_
 clear hK K hp3c hp3f ec3 ecf ecl HOWN
 refine wpAny_done (by kernel_rfl) ?_ _
 go_simp
 obtain ⟨m1, m2, m3⟩ := unhide HP1
 obtain ⟨t0x, ht2⟩ : ∃ tq : Tr, tq = .mk t0.kd t0.tx t0.n (t0.kids ++ [.mk 13 s 0 [b2]]) := ⟨_, rfl⟩
 rw [← ht2] at m1
 have HKLt0x : Hid (t0x.kids.length = t0.kids.length + 1) := by
  show _ = _
  rw [ht2]; simp [Tr.kids]
 have HTt0x := hide ht2
 obtain ⟨pz, uz, psz, hpz, hopz⟩ := m1.opens
 have hpz2 : pz = p0 := by simpa [nPtr] using hpz.symm
 rw [hpz2] at hopz
 obtain ⟨w4, hw4⟩ : ∃ w4, w4 = (w3.setCell ⟨p0, 3, none⟩ (.slice (some ⟨g, 0, none⟩) (t0.kids.length + 1) cap)) := ⟨_, rfl⟩
 rw [← hw4] at hopz m2 m3
 rw [← hw4]
 clear HOP
 have HOP := hide hopz
 have HR4C := hide m2
 have HA4C := hide m3
 clear m1 m2 m3 hopz hpz hw4 hpz2 ht2 HP1 HCC
 have HC := hide (take_yes c tFinally w4 i5 d HR4C.out hf (by decide))
 go_wp2_with fail
 refine cm HC.out ?_
 rintro e wz ⟨rfl, hrd, ha⟩
 clear HC
 have HRz := hide hrd
 have HAz := hide (HA4C.out.next ha)
 replace HOP := hide (Open.later HOP.out (ha) HLT.out)
 clear hrd ha
 have HKL2 : Hid (t0x.kids.length = 2) := by
  show _ = _
  rw [HKLt0x.out, HKL.out]
 have HCF := hide (block_any hF hN wz.drew d (i5 + 1) _ rfl (by rw [h6]; nofun) HRz.out.drew)
 rw [h6] at HCF
 obtain ⟨hc3, hcf, hcl⟩ := HOP.out.cell
 obtain ⟨ua, uc, hue⟩ := HOP.out.shape
 subst hue
 go_wp2_with fail
 refine wp_region_any (by kernel_rfl) ?_
 change wpAny _ _ _ _ _ _ _ (World.drew _)
 refine wt 0 (nPtr p0) ?_
 refine wt 1 (nPtr p0) ?_
 refine wt 2 (nPtr p0) ?_
 refine wt 3 (.pointer (some ⟨p0, 3, none⟩)) ?_
 refine wt 5 (rPtr c) ?_
 refine wr2 4 6 (fun K hK => ?_) fun K hK => ?_
 ·
  go_simp; refine hK _ _ ?_; clear hK K; refine wr1 6 fun K hK => ?_; exact zbga
 ·
  exact zbga
end
theorem bind_inv {α β : Type} {r : PR α} {f : α → Nat → PR β} {y : β} {j : Nat} (h : r.bind f = .ok y j) : ∃ x i, r = .ok x i ∧ f x i = .ok y j := by
 cases r with
 | ok x i => exact ⟨x, i, rfl, h⟩
 | bad er p => cases h
 | out => cases h
theorem hd_ne {s : ByteArray} : hdKind s ≠ 15 := by
 unfold hdKind look2
 cases hf : hds.find? (fun e => decide (s = e.1)) with
 | none => decide
 | some e =>
  have hm := List.mem_of_find?_eq_some hf; simp only [hds, List.mem_cons, List.not_mem_nil, or_false] at hm
  rcases hm with rfl | rfl | rfl | rfl | rfl | rfl | rfl | rfl <;> decide
theorem funcTail_kd {l : List Tk} {F : Fns} {kd : Int} {s : ByteArray} {d i j : Nat} {t : Tr} (h : funcTail l F kd s d i = .ok t j) : t.kd = kd := by
 unfold funcTail at h
 obtain ⟨_, _, _, h⟩ := bind_inv h
 obtain ⟨_, _, _, h⟩ := bind_inv h
 cases h; rfl
theorem part_kd {l : List Tk} {F : Fns} {d q i j : Nat} {t : Tr} (h : partP l F d q i = .ok t j) : t.kd ≠ 15 := by
 unfold partP at h
 split at h
 ·
  unfold declP at h; obtain ⟨_, _, _, h⟩ := bind_inv h
  split at h
  ·
   cases h
  ·
   split at h
   ·
    exact zbeq
   ·
    obtain ⟨_, _, _, h⟩ := bind_inv h
    cases h; exact hd_ne
 ·
  unfold funcP at h; obtain ⟨_, _, _, h⟩ := bind_inv h; obtain ⟨_, _, _, h⟩ := bind_inv h; rw [funcTail_kd h]; decide
 ·
  unfold blockP at h; obtain ⟨_, _, _, h⟩ := bind_inv h; obtain ⟨_, _, _, h⟩ := bind_inv h; cases h
  show (6 : Int) ≠ 15
  decide
 ·
  obtain ⟨_, _, _, h⟩ := bind_inv h
  cases h; decide
 ·
  unfold choiceP at h; obtain ⟨_, _, _, h⟩ := bind_inv h; obtain ⟨_, _, _, h⟩ := bind_inv h
  split at h
  ·
   obtain ⟨_, _, _, h⟩ := bind_inv h
   cases h; exact hd_ne
  ·
   cases h; exact hd_ne
 ·
  unfold behindP at h; exact zbeq
 ·
  unfold givingP at h
  split at h
  ·
   exact zbeq
  ·
   obtain ⟨_, _, _, h⟩ := bind_inv h
   cases h; exact hd_ne
 ·
  unfold attemptP at h; obtain ⟨_, _, _, h⟩ := bind_inv h; obtain ⟨_, _, _, h⟩ := bind_inv h; obtain ⟨_, _, _, h⟩ := bind_inv h; obtain ⟨_, _, _, h⟩ := bind_inv h
  split at h
  ·
   cases h
  ·
   cases h
   show (12 : Int) ≠ 15
   decide
theorem fns_ok (l : List Tk) : ∀ k, FOk (fns l k) := by
 intro k
 cases k with
 | zero => intro d i t j h; cases h
 | succ k =>
  intro d i t j h h15; have h' : statementP l (fns l k) d i = .ok t j := h; unfold statementP at h'
  split at h'
  ·
   exact absurd h15 (part_kd h')
  ·
   exact zbft
theorem attempt_any {c : Ctx} {F : Fns} (hF : FC c F) (hN : ∃ k, FNx c.l k F) : Does c 170 NV (attemptP c.l F) := by
 intro w d i r hs ho h
 unfold attemptP at hs
 cases hm : mustP c.l tTry i with
 | out => rw [hm] at hs; exact absurd hs.symm ho
 | bad er p => rw [hm, bind_bad] at hs; subst hs; exact at_m w d i h er p hm
 | ok x i0 =>
  rw [hm, bind_ok] at hs
  cases hb : blockP c.l F d i0 with
  | out => rw [hb] at hs; exact absurd hs.symm ho
  | bad er p => rw [hb, bind_bad] at hs; subst hs; exact at_b hF hN w d i i0 h hm er p hb
  | ok b i1 =>
   rw [hb, bind_ok] at hs; unfold catchP at hs
   by_cases hc : fx c.l i1 = tCatch
   ·
    rw [if_pos hc, bind_assoc] at hs
    cases h2 : mustP c.l tOpen (i1 + 1) with
    | out => rw [h2] at hs; exact absurd hs.symm ho
    | bad er p => rw [h2, bind_bad] at hs; subst hs; exact at_cbad hF hN w d i i0 h hm b i1 hb hc er p (Or.inl h2)
    | ok x2 i2 =>
     rw [h2, bind_ok, bind_assoc] at hs
     cases h3 : nameP c.l i2 with
     | out => rw [h3] at hs; exact absurd hs.symm ho
     | bad er p => rw [h3, bind_bad] at hs; subst hs; exact at_cbad hF hN w d i i0 h hm b i1 hb hc er p (Or.inr ⟨i2, h2, Or.inl h3⟩)
     | ok s i3 =>
      rw [h3, bind_ok, bind_assoc] at hs
      cases h4 : mustP c.l tShut i3 with
      | out => rw [h4] at hs; exact absurd hs.symm ho
      | bad er p => rw [h4, bind_bad] at hs; subst hs; exact at_cbad hF hN w d i i0 h hm b i1 hb hc er p (Or.inr ⟨i2, h2, Or.inr ⟨s, i3, h3, Or.inl h4⟩⟩)
      | ok x4 i4 =>
       rw [h4, bind_ok, bind_assoc] at hs
       cases h5 : blockP c.l F d i4 with
       | out => rw [h5] at hs; exact absurd hs.symm ho
       | bad er p => rw [h5, bind_bad] at hs; subst hs; exact at_cbad hF hN w d i i0 h hm b i1 hb hc er p (Or.inr ⟨i2, h2, Or.inr ⟨s, i3, h3, Or.inr ⟨i4, h4, h5⟩⟩⟩)
       | ok b2 i5 =>
        rw [h5, bind_ok, bind_ok] at hs; unfold finallyP at hs
        by_cases hf : fx c.l i5 = tFinally
        ·
         rw [if_pos hf, bind_assoc] at hs
         cases h6 : blockP c.l F d (i5 + 1) with
         | out => rw [h6] at hs; exact absurd hs.symm ho
         | bad er p => rw [h6, bind_bad] at hs; subst hs; exact at_bothbad hF hN w d i i0 h hm b i1 hb hc i2 h2 s i3 h3 i4 h4 b2 i5 h5 hf er p h6
         | ok b3 i6 =>
          rw [h6, bind_ok, bind_ok, if_neg (by simp)] at hs; subst hs; exact at_both hF hN w d i i0 h hm b i1 hb hc i2 h2 s i3 h3 i4 h4 b2 i5 h5 hf b3 i6 h6
        ·
         rw [if_neg hf, bind_ok, if_neg (by simp)] at hs; subst hs; exact at_catch hF hN w d i i0 h hm b i1 hb hc i2 h2 s i3 h3 i4 h4 b2 i5 h5 hf
   ·
    rw [if_neg hc, bind_ok] at hs; unfold finallyP at hs
    by_cases hf : fx c.l i1 = tFinally
    ·
     rw [if_pos hf, bind_assoc] at hs
     cases h6 : blockP c.l F d (i1 + 1) with
     | out => rw [h6] at hs; exact absurd hs.symm ho
     | bad er p => rw [h6, bind_bad] at hs; subst hs; exact at_finbad hF hN w d i i0 h hm b i1 hb hc hf er p h6
     | ok b3 i6 =>
      rw [h6, bind_ok, bind_ok, if_neg (by simp)] at hs; subst hs; exact at_fin hF hN w d i i0 h hm b i1 hb hc hf b3 i6 h6
    ·
     rw [if_neg hf, bind_ok, if_pos (by simp)] at hs; subst hs; exact at_none hF hN w d i i0 h hm b i1 hb hc hf
theorem en127 : ∀ args W, (callFunc 163 args).run Tryz.prog W = .ok (.enter 163 args) W := fun _ _ => by kernel_rfl
theorem en128 : ∀ args W, (callFunc 164 args).run Tryz.prog W = .ok (.enter 164 args) W := fun _ _ => by kernel_rfl
theorem en129 : ∀ args W, (callFunc 165 args).run Tryz.prog W = .ok (.enter 165 args) W := fun _ _ => by kernel_rfl
theorem en130 : ∀ args W, (callFunc 166 args).run Tryz.prog W = .ok (.enter 166 args) W := fun _ _ => by kernel_rfl
theorem en131 : ∀ args W, (callFunc 167 args).run Tryz.prog W = .ok (.enter 167 args) W := fun _ _ => by kernel_rfl
theorem en132 : ∀ args W, (callFunc 168 args).run Tryz.prog W = .ok (.enter 168 args) W := fun _ _ => by kernel_rfl
theorem en133 : ∀ args W, (callFunc 169 args).run Tryz.prog W = .ok (.enter 169 args) W := fun _ _ => by kernel_rfl
theorem en134 : ∀ args W, (callFunc 170 args).run Tryz.prog W = .ok (.enter 170 args) W := fun _ _ => by kernel_rfl
theorem st_lt {s : ByteArray} {q : Nat} (h : look2 stKeys s = some q) : q < 8 := by
 unfold look2 at h
 cases hf : stKeys.find? (fun e => decide (s = e.1)) with
 | none => rw [hf] at h; cases h
 | some e =>
  rw [hf] at h; have hm := List.mem_of_find?_eq_some hf; simp only [Option.map_some, Option.some.injEq] at h; subst h; simp only [stKeys, List.mem_cons, List.not_mem_nil, or_false] at hm
  rcases hm with rfl | rfl | rfl | rfl | rfl | rfl | rfl | rfl | rfl | rfl | rfl | rfl <;> decide
theorem ppEV {c : Ctx} {w : World} {d : Nat} {r : PR Tr} {e : Ending} {w' : World} (h : PPost c w d (EV w.heap.size) r e w') : PPost c w d (NV w.heap.size) r e w' := by
 cases r with
 | ok x j =>
  obtain ⟨⟨v, h1, h2⟩, h3, h4⟩ := h; exact ⟨⟨v, h1, h2.nv⟩, h3, h4⟩
 | bad er p => exact h
 | out => exact h
theorem statement_any {c : Ctx} {F : Fns} (hF : FC c F) (hN : ∃ k, FNx c.l k F) (hK : FOk F) : Does c 176 NV (statementP c.l F) := by
 intro w d i r hs ho h
 unfold statementP at hs
 cases hq : look2 stKeys (fx c.l i) with
 | none => rw [hq] at hs; exact st_none hF w d i r hs ho hq h
 | some q =>
  rw [hq] at hs; have hlt := st_lt hq; have hk6 : (tkA c.l i).kd ≠ 6 := fun h6 => by
   have : fx c.l i = noText := by unfold fx; rw [h6]; rfl
   have h0 : look2 stKeys noText = none := by decide
   rw [this, h0] at hq; cases hq
  have h8 : q = 0 ∨ q = 1 ∨ q = 2 ∨ q = 3 ∨ q = 4 ∨ q = 5 ∨ q = 6 ∨ q = 7 := by omega
  rcases h8 with rfl | rfl | rfl | rfl | rfl | rfl | rfl | rfl
  ·
   exact st_some 163 en127 w d i r ho 0 hq rfl (fun W hW => decl_any hF W d i r hk6 hs ho hW) h
  ·
   exact st_some 164 en128 w d i r ho 1 hq rfl (fun W hW => func_any hF hN hK W d i r hs ho hW) h
  ·
   exact st_some 165 en129 w d i r ho 2 hq rfl (fun W hW => (block_any hF hN W d i r hs ho hW).mono fun e w' hp => ppEV hp) h
  ·
   exact st_some 166 en130 w d i r ho 3 hq rfl (fun W hW => empty_any W d i r hs ho hW) h
  ·
   exact st_some 167 en131 w d i r ho 4 hq rfl (fun W hW => choice_any hF W d i r hk6 hs ho hW) h
  ·
   exact st_some 168 en132 w d i r ho 5 hq rfl (fun W hW => (behind_any hF W d i r hk6 hs ho hW).mono fun e w' hp => ppEV hp) h
  ·
   exact st_some 169 en133 w d i r ho 6 hq rfl (fun W hW => giving_any hF W d i r hk6 hs ho hW) h
  ·
   exact st_some 170 en134 w d i r ho 7 hq rfl (fun W hW => attempt_any hF hN W d i r hs ho hW) h
theorem fns_does (c : Ctx) (hE : Ends c.l) : ∀ k, FC c (fns c.l k) := by
 intro k
 induction k with
 | zero => exact ⟨fun _ _ _ r hs ho _ => absurd hs.symm ho, fun _ _ _ r hs ho _ => absurd hs.symm ho, fun _ _ _ _ _ _ r hs ho _ => absurd hs.symm ho, fun _ _ _ r hs ho _ => absurd hs.symm ho⟩
 | succ k ih =>
  have hN : ∃ q, FNx c.l q (fns c.l k) := ⟨k, fns_nx hE k⟩
  exact ⟨statement_any ih hN (fns_ok c.l k), value_any ih, fun b _ _ w d i r hs ho h => pair_any ih hN b w d i r hs ho h, single_any ih (asked_any ih hN (fns_ok c.l k))⟩
end Go.Proofs.YtoimgcjbcbhclaaGreatDoor
