/-
  try, with catch, or finally, or both.
-/
import Derived.Test.YtoimgcjbcbhclaaGreatDoorRn0
import Derived.Test.YtoimgcjbcbhclaaGreatDoorRn6
import Derived.Test.YtoimgcjbcbhclaaGreatDoorRn10
import Derived.Deep.MidRow
import Derived.Laws.AppendOwnNone
import Derived.Test.YtoimgcjbcbhclaaGreatDoorRn8
import Derived.Test.YtoimgcjbcbhclaaGreatDoorRn9
import Derived.Test.YtoimgcjbcbhclaaGreatDoorRn11
import Derived.Test.YtoimgcjbcbhclaaGreatDoorRn12
import Derived.Test.YtoimgcjbcbhclaaGreatDoorRn13
set_option maxRecDepth 100000
set_option maxHeartbeats 16000000
namespace Go.Proofs.YtoimgcjbcbhclaaGreatDoor
open Go.RowKit
theorem at_m {c : Ctx} (w : World) (d i : Nat) (h : Rdr c w i d) (er : Int) (p : Nat) (hm : zz0 c.l tTry i = .bad er p) : Calls Tryz.prog 170 #[rPtr c] w (zk3 c w d (NV w.heap.size) (.bad er p)) := by
 have HR0 := qh h
 have HA0 := qh (Ap.refl c.R w.heap.size w)
 clear h
 go_enter Tryz.func170, Tryz.ntmps170
 have HC := qh (zz7 c tTry w i d HR0.out (by decide))
 rw [hm] at HC
 go_wp2_with fail
 refine cm HC.out ?_
 intro e w' hp
 obtain ⟨rfl, ha⟩ := hp
 exact ⟨rfl, zq7 rfl (HA0.out.next ha)⟩
theorem at_both {c : Ctx} {F : Fns} (hF : FC c F) (hN : ∃ k, FNx c.l k F) (w : World) (d i i0 : Nat) (h : Rdr c w i d) (hm : zz0 c.l tTry i = .ok () i0) (b : Tr) (i1 : Nat) (hb : zq0 c.l F d i0 = .ok b i1) (hc : fx c.l i1 = zj5) (i2 : Nat) (h2 : zz0 c.l zxk (i1 + 1) = .ok () i2) (s : ByteArray) (i3 : Nat) (h3 : zjq c.l i2 = .ok s i3) (i4 : Nat) (h4 : zz0 c.l zjy i3 = .ok () i4) (b2 : Tr) (i5 : Nat) (h5 : zq0 c.l F d i4 = .ok b2 i5) (hf : fx c.l i5 = zxz) (b3 : Tr) (i6 : Nat) (h6 : zq0 c.l F d (i5 + 1) = .ok b3 i6) : Calls Tryz.prog 170 #[rPtr c] w (zk3 c w d (NV w.heap.size) (.ok (.mk 12 zzx 0 [b, .mk 13 s 0 [b2], .mk 14 zzx 0 [b3]]) i6)) := by
 have HLO := qh h.base.size
 obtain ⟨i0', hi0, hz0, hz1, hz2⟩ := info_parts zk0
 have HR0 := qh h
 have HA0 := qh (Ap.refl c.R w.heap.size w)
 have HLT := qh h.rlt
 clear h
 go_enter Tryz.func170, Tryz.ntmps170
 have HC := qh (zz7 c tTry w i d HR0.out (by decide))
 rw [hm] at HC
 go_wp2_with fail
 refine cm HC.out ?_
 intro e wa hp
 obtain ⟨⟨va, rfl, rfl⟩, hrd, ha⟩ := hp
 clear HC
 have HRa := qh hrd
 have HAa := qh (HA0.out.next ha)
 clear hrd ha
 have HC := qh (zxx hF hN wa d i0 _ rfl (by rw [hb]; nofun) HRa.out)
 rw [hb] at HC
 go_wp2_with fail
 refine cm HC.out ?_
 intro e wb hp
 obtain ⟨⟨vb, rfl, hnb⟩, hrd, ha⟩ := hp
 clear HC
 have HRb := qh hrd
 have HAb := qh (HAa.out.next ha)
 obtain ⟨pb, rfl, hmb⟩ := (EV.mono hnb HAa.out.size).nv
 have HNb := qh hmb
 clear hnb hmb
 clear hrd ha
 have HC := qh (zqk 12 zzx (.slice (some ⟨wb.heap.size, 0, none⟩) 1 1) (wb.alloc (.cells #[nPtr pb] 22)) ⟨_, _, _, rfl⟩)
 go_wp2_with fail
 refine cm HC.out ?_
 rintro e wn0 ⟨rfl, rfl⟩
 clear HC
 obtain ⟨m1, m2, m3⟩ := made HRb.out HAb.out (NAts.cons HNb.out NAts.nil) (by simp [maxLen]) #[nPtr pb] rfl 1 rfl 12 zzx (wb.heap.size + 1) rfl
 obtain ⟨t0, ht0⟩ : ∃ t0 : Tr, t0 = .mk 12 zzx 0 [b] := ⟨_, rfl⟩
 rw [← ht0] at m1
 have HKL : Hid (t0.kids.length = 1) := by
  show _ = _
  rw [ht0]; rfl
 have HT0 := qh ht0
 obtain ⟨p0, u0, ps0, hpe, hop⟩ := m1.opens
 have hpe2 : p0 = wb.heap.size + 1 := by simpa [nPtr] using hpe.symm
 rw [hpe2] at hop
 have HOP := qh hop
 have HRn := qh m2
 have HAn := qh m3
 clear m1 m2 m3 hop hpe ht0
 obtain ⟨wn, hwn⟩ : ∃ wn, wn = (wb.alloc (.cells #[nPtr pb] 22)).alloc (zzk 12 zzx 0 (.slice (some ⟨wb.heap.size, 0, none⟩) 1 1)) := ⟨_, rfl⟩
 rw [← hwn] at HOP HRn HAn
 rw [← hpe2] at HOP
 rw [show (wb.alloc (.cells #[nPtr pb] 22)).heap.size = p0 by rw [hpe2]; simp, ← hwn]
 clear hwn hpe2
 have HC := qh (zkv c zj5 wn i1 d HRn.out hc (by decide))
 go_wp2_with fail
 refine cm HC.out ?_
 rintro e wc ⟨rfl, hrd, ha⟩
 clear HC
 have HRc := qh hrd
 have HAc := qh (HAn.out.next ha)
 replace HOP := qh (Open.later HOP.out (ha) HLT.out)
 clear hrd ha
 have HC := qh (zz7 c zxk wc (i1 + 1) d HRc.out (by decide))
 rw [h2] at HC
 go_wp2_with fail
 refine cm HC.out ?_
 intro e wd hp
 obtain ⟨⟨vd, rfl, rfl⟩, hrd, ha⟩ := hp
 clear HC
 have HRd := qh hrd
 have HAd := qh (HAc.out.next ha)
 replace HOP := qh (Open.later HOP.out (ha) HLT.out)
 clear hrd ha
 have HC := qh (zk1 c wd i2 d HRd.out)
 rw [h3] at HC
 go_wp2_with fail
 refine cm HC.out ?_
 intro e we hp
 obtain ⟨⟨ve, rfl, rfl⟩, hrd, ha⟩ := hp
 clear HC
 have HRe := qh hrd
 have HAe := qh (HAd.out.next ha)
 replace HOP := qh (Open.later HOP.out (ha) HLT.out)
 clear hrd ha
 have HC := qh (zz7 c zjy we i3 d HRe.out (by decide))
 rw [h4] at HC
 go_wp2_with fail
 refine cm HC.out ?_
 intro e wg1 hp
 obtain ⟨⟨vg1, rfl, rfl⟩, hrd, ha⟩ := hp
 clear HC
 have HRg1 := qh hrd
 have HAg1 := qh (HAe.out.next ha)
 replace HOP := qh (Open.later HOP.out (ha) HLT.out)
 clear hrd ha
 have HCC := qh (zxx hF hN wg1.drew d i4 _ rfl (by rw [h5]; nofun) HRg1.out.drew)
 rw [h5] at HCC
 obtain ⟨hc3, hcf, hcl⟩ := HOP.out.cell
 obtain ⟨ua, uc, hue⟩ := HOP.out.shape
 subst hue
 go_wp2_with fail
 refine via2 (H := fun wc pc => Ap c.R wg1.heap.size wg1 wc ∧ Rdr c wc i5 d ∧ NAt (From wg1.heap.size) wc b2 pc) (G := ?G3) (fun CONT => ?_) ?_
 rotate_left
 ·
  refine wp_region_any (by kernel_rfl) ?_; change wpAny _ _ _ _ _ _ _ (World.drew _); refine wt 0 (nPtr p0) ?_; refine wt 1 (nPtr p0) ?_; refine wt 2 (nPtr p0) ?_; refine wt 3 (.pointer (some ⟨p0, 3, none⟩)) ?_
  refine wt 5 (.string s) ?_; refine wt 6 (rPtr c) ?_; refine wr2 4 7 (fun K hK => ?_) fun K hK => ?_
  ·
   go_simp; refine hK _ _ ?_; clear hK K; refine wr1 7 fun K hK => ?_; go_simp; refine cm HCC.out ?_; intro e wc hp; obtain ⟨⟨vc, rfl, hnc⟩, hrd, ha⟩ := hp; obtain ⟨pc, rfl, hmc⟩ := hnc.nv
   have ha0 := ((Ap.refl c.R wg1.heap.size wg1).drew).next ha; have HY : Hid (Ap c.R wg1.heap.size wg1 wc ∧ Rdr c wc i5 d ∧ NAt (From wg1.heap.size) wc b2 pc) := ⟨ha0, hrd, hmc⟩
   obtain ⟨gc3, gcf, gcl⟩ := (Open.later HOP.out ha0 HLT.out).cell; have gcl1 : p0 < wc.heap.size + 1 := by omega
   have gcl2 : p0 < wc.heap.size + 1 + 1 := by omega
   clear hrd ha ha0 hnc hmc; refine hK _ _ ?_; clear hK K; refine wr1 8 fun K hK => ?_; go_simp; refine hK _ _ ?_; clear hK K; refine wr1 9 fun K hK => ?_; go_simp
   refine cm (zqk 13 s (.slice (some ⟨wc.heap.size, 0, none⟩) 1 1) (wc.alloc (.cells #[nPtr pc] 22)) ⟨_, _, _, rfl⟩) ?_; rintro e wd0 ⟨rfl, rfl⟩; refine hK _ _ ?_; clear hK K; refine wr1 10 fun K hK => ?_; go_simp
   refine hK _ _ ?_; clear hK K; refine zq9 (listed' := tf 11 4) (by kernel_rfl) rfl ?_; exact CONT wc pc HY.out
  ·
   go_simp; refine cm HCC.out ?_; intro e wc hp; obtain ⟨⟨vc, rfl, hnc⟩, hrd, ha⟩ := hp; obtain ⟨pc, rfl, hmc⟩ := hnc.nv; have ha0 := ((Ap.refl c.R wg1.heap.size wg1).drew).next ha
   have HY : Hid (Ap c.R wg1.heap.size wg1 wc ∧ Rdr c wc i5 d ∧ NAt (From wg1.heap.size) wc b2 pc) := ⟨ha0, hrd, hmc⟩; obtain ⟨gc3, gcf, gcl⟩ := (Open.later HOP.out ha0 HLT.out).cell
   have gcl1 : p0 < wc.heap.size + 1 := by omega
   have gcl2 : p0 < wc.heap.size + 1 + 1 := by omega
   clear hrd ha ha0 hnc hmc; refine hK _ _ ?_; clear hK K; refine wr2 4 8 (fun K hK => ?_) fun K hK => ?_
   ·
    go_simp; refine hK _ _ ?_; clear hK K; refine wr1 8 fun K hK => ?_; go_simp; refine hK _ _ ?_; clear hK K; refine wr1 9 fun K hK => ?_; go_simp
    refine cm (zqk 13 s (.slice (some ⟨wc.heap.size, 0, none⟩) 1 1) (wc.alloc (.cells #[nPtr pc] 22)) ⟨_, _, _, rfl⟩) ?_; rintro e wd0 ⟨rfl, rfl⟩; refine hK _ _ ?_; clear hK K; refine wr1 10 fun K hK => ?_; go_simp
    refine hK _ _ ?_; clear hK K; exact Go.Proofs.YtoimgcjbcbhclaaGreatDoor.wz 11 4 (CONT wc pc HY.out)
   ·
    go_simp; refine hK _ _ ?_; clear hK K; refine wr2 4 9 (fun K hK => ?_) fun K hK => ?_
    ·
     go_simp; refine hK _ _ ?_; clear hK K; refine wr1 9 fun K hK => ?_; go_simp; refine cm (zqk 13 s (.slice (some ⟨wc.heap.size, 0, none⟩) 1 1) (wc.alloc (.cells #[nPtr pc] 22)) ⟨_, _, _, rfl⟩) ?_
     rintro e wd0 ⟨rfl, rfl⟩; refine hK _ _ ?_; clear hK K; refine wr1 10 fun K hK => ?_; go_simp; refine hK _ _ ?_; clear hK K; exact Go.Proofs.YtoimgcjbcbhclaaGreatDoor.wz 11 4 (CONT wc pc HY.out)
    ·
     go_simp; refine cm (zqk 13 s (.slice (some ⟨wc.heap.size, 0, none⟩) 1 1) (wc.alloc (.cells #[nPtr pc] 22)) ⟨_, _, _, rfl⟩) ?_; rintro e wd0 ⟨rfl, rfl⟩; refine hK _ _ ?_; clear hK K
     refine wr2 4 10 (fun K hK => ?_) fun K hK => ?_
     ·
      go_simp; refine hK _ _ ?_; clear hK K; refine wr1 10 fun K hK => ?_; go_simp; refine hK _ _ ?_; clear hK K; exact Go.Proofs.YtoimgcjbcbhclaaGreatDoor.wz 11 4 (CONT wc pc HY.out)
     ·
      go_simp; refine hK _ _ ?_; clear hK K; refine wr1 4 fun K hK => ?_; go_simp; refine hK _ _ ?_; clear hK K; exact Go.Proofs.YtoimgcjbcbhclaaGreatDoor.wz 11 4 (CONT wc pc HY.out)
 intro wc pc hY
 obtain ⟨ha0, hrd, hmc⟩ := hY
 have HAc := qh (HAg1.out.next ha0)
 have HA0c := qh ha0
 have HRc := qh hrd
 have HOc := qh (Open.later HOP.out ha0 HLT.out)
 have HNc := qh hmc
 obtain ⟨gc3, gcf, gcl⟩ := HOc.out.cell
 have gcl1 : p0 < wc.heap.size + 1 := by omega
 have gcl2 : p0 < wc.heap.size + 1 + 1 := by omega
 clear hrd ha0 hmc
 obtain ⟨n1, n2, n3⟩ := made (w := wg1) HRc.out HA0c.out (NAts.cons HNc.out NAts.nil) (by simp [maxLen]) #[nPtr pc] rfl 1 rfl 13 s (wc.heap.size + 1) rfl
 have hbd : Below wc.heap.size wc ((wc.alloc (.cells #[nPtr pc] 22)).alloc (zzk 13 s 0 (.slice (some ⟨wc.heap.size, 0, none⟩) 1 1))) := (qb.alloc qv _).alloc (by simp) _
 obtain ⟨wd, hwd⟩ : ∃ wd, wd = (wc.alloc (.cells #[nPtr pc] 22)).alloc (zzk 13 s 0 (.slice (some ⟨wc.heap.size, 0, none⟩) 1 1)) := ⟨_, rfl⟩
 have hq : (wc.alloc (.cells #[nPtr pc] 22)).heap.size = wc.heap.size + 1 := by simp
 obtain ⟨q, hqq⟩ : ∃ q, q = wc.heap.size + 1 := ⟨_, rfl⟩
 obtain ⟨pq, hpq, hnq⟩ := n1.nv
 have hpe : pq = wc.heap.size + 1 := by simpa [nPtr] using hpq.symm
 subst hpe
 have hws : wd.heap.size = q + 1 := by rw [hwd, hqq]; simp
 rw [← hwd] at hnq n2 n3 hbd
 try rw [hq]
 rw [← hqq] at hnq
 try rw [← hqq]
 try rw [← hwd]
 have HOd := qh (Open.later HOc.out (Ap.of hbd) HLT.out)
 have HAd := qh (HAc.out.next (Ap.of hbd))
 have HRd := qh n2
 have HNd := qh (Open.apart HOP.out HAg1.out.size n3 HLT.out (NAts.cons hnq NAts.nil))
 obtain ⟨ec3, ecf, ecl⟩ := HOd.out.cell
 clear n1 n2 n3 hbd hnq hpq hwd hqq hq gc3 gcf gcl gcl1 gcl2
 have hlen := NAts.length _ _ HOd.out.kids
 have hown := HOd.out.row
 rw [hlen] at hown
 have HOWN := qh hown
 have hsz := HAd.out.size
 have hkl : t0.kids.length ≤ 3 := by rw [HKL.out]; decide
 clear hown hlen
 refine wr1 11 fun K hK => ?_
 refine step_append_lies _ rfl _ _ 46 rfl w.heap.size 22 i0' (.pointer none) 1 8 Tryz.underlying46 hi0 hz0 hz1 hz2 rfl (by decide) _ _ _ rfl (HOWN.out.alloc _) ⟨q + 1, 0, none⟩ 1 1 [nPtr q] rfl rfl (zq1 wd q _ hws) (zxv q) (by decide) (by unfold maxLen; omega) (by omega) (by simp; omega) (wd.heap.size + 1) (by simp) ?_
 clear hws
 intro g cap w3 hown3 hgr3 hg3 _
 refine hK _ _ ?_
 clear hK K
 have HP1 := qh (push1 HOd.out HNd.out HRd.out HAd.out HLO.out hown3 hgr3 hg3)
 have hp3 : w3.cell? ⟨p0, 3, none⟩ = wd.cell? ⟨p0, 3, none⟩ ∧ w3.frozen? ⟨p0, 3, none⟩ = wd.frozen? ⟨p0, 3, none⟩ := by
  have hbb : w3.heap[p0]? = wd.heap[p0]? := (hgr3.block p0 (by simp; omega) (fun e => HOd.out.own e.symm)).trans (Below.heap_alloc wd _ p0 ecl)
  exact ⟨World.cell?_of_block (w := wd) hbb, World.frozen?_of_block (w := wd) hbb⟩
 obtain ⟨hp3c, hp3f⟩ := hp3
 rw [ec3] at hp3c
 rw [ecf 3] at hp3f
 clear hown3 hgr3 hg3
 refine wt 12 (nPtr p0) ?_
 refine wt 13 (.pointer (some ⟨p0, 3, none⟩)) ?_
 refine wr1 14 fun K hK => ?_
 go_simp
 refine hK _ _ ?_
 clear hK K hp3c hp3f ec3 ecf ecl HOWN
 refine wpAny_done (by kernel_rfl) ?_ _
 go_simp
 obtain ⟨m1, m2, m3⟩ := zzq HP1
 obtain ⟨t0x, ht2⟩ : ∃ tq : Tr, tq = .mk t0.kd t0.tx t0.n (t0.kids ++ [.mk 13 s 0 [b2]]) := ⟨_, rfl⟩
 rw [← ht2] at m1
 have HKLt0x : Hid (t0x.kids.length = t0.kids.length + 1) := by
  show _ = _
  rw [ht2]; simp [Tr.kids]
 have HTt0x := qh ht2
 obtain ⟨pz, uz, psz, hpz, hopz⟩ := m1.opens
 have hpz2 : pz = p0 := by simpa [nPtr] using hpz.symm
 rw [hpz2] at hopz
 obtain ⟨w4, hw4⟩ : ∃ w4, w4 = (w3.setCell ⟨p0, 3, none⟩ (.slice (some ⟨g, 0, none⟩) (t0.kids.length + 1) cap)) := ⟨_, rfl⟩
 rw [← hw4] at hopz m2 m3
 rw [← hw4]
 clear HOP
 have HOP := qh hopz
 have HR4C := qh m2
 have HA4C := qh m3
 clear m1 m2 m3 hopz hpz hw4 hpz2 ht2 HP1 HCC
 have HC := qh (zkv c zxz w4 i5 d HR4C.out hf (by decide))
 go_wp2_with fail
 refine cm HC.out ?_
 rintro e wz ⟨rfl, hrd, ha⟩
 clear HC
 have HRz := qh hrd
 have HAz := qh (HA4C.out.next ha)
 replace HOP := qh (Open.later HOP.out (ha) HLT.out)
 clear hrd ha
 have HKL2 : Hid (t0x.kids.length = 2) := by
  show _ = _
  rw [HKLt0x.out, HKL.out]
 have HCF := qh (zxx hF hN wz.drew d (i5 + 1) _ rfl (by rw [h6]; nofun) HRz.out.drew)
 rw [h6] at HCF
 obtain ⟨hc3, hcf, hcl⟩ := HOP.out.cell
 obtain ⟨ua, uc, hue⟩ := HOP.out.shape
 subst hue
 go_wp2_with fail
 refine via2 (H := fun wc pc => Ap c.R wz.heap.size wz wc ∧ Rdr c wc i6 d ∧ NAt (From wz.heap.size) wc b3 pc) (G := ?G4) (fun CONT => ?_) ?_
 rotate_left
 ·
  refine wp_region_any (by kernel_rfl) ?_; change wpAny _ _ _ _ _ _ _ (World.drew _); refine wt 0 (nPtr p0) ?_; refine wt 1 (nPtr p0) ?_; refine wt 2 (nPtr p0) ?_; refine wt 3 (.pointer (some ⟨p0, 3, none⟩)) ?_
  refine wt 5 (rPtr c) ?_; refine wr2 4 6 (fun K hK => ?_) fun K hK => ?_
  ·
   go_simp; refine hK _ _ ?_; clear hK K; refine wr1 6 fun K hK => ?_; go_simp; refine cm HCF.out ?_; intro e wc hp; obtain ⟨⟨vc, rfl, hnc⟩, hrd, ha⟩ := hp; obtain ⟨pc, rfl, hmc⟩ := hnc.nv
   have ha0 := ((Ap.refl c.R wz.heap.size wz).drew).next ha; have HY : Hid (Ap c.R wz.heap.size wz wc ∧ Rdr c wc i6 d ∧ NAt (From wz.heap.size) wc b3 pc) := ⟨ha0, hrd, hmc⟩
   obtain ⟨gc3, gcf, gcl⟩ := (Open.later HOP.out ha0 HLT.out).cell; have gcl1 : p0 < wc.heap.size + 1 := by omega
   have gcl2 : p0 < wc.heap.size + 1 + 1 := by omega
   clear hrd ha ha0 hnc hmc; refine hK _ _ ?_; clear hK K; refine wr1 7 fun K hK => ?_; go_simp; refine hK _ _ ?_; clear hK K; refine wr1 8 fun K hK => ?_; go_simp
   refine cm (zqk 14 zzx (.slice (some ⟨wc.heap.size, 0, none⟩) 1 1) (wc.alloc (.cells #[nPtr pc] 22)) ⟨_, _, _, rfl⟩) ?_; rintro e wd0 ⟨rfl, rfl⟩; refine hK _ _ ?_; clear hK K; refine wr1 9 fun K hK => ?_; go_simp
   refine hK _ _ ?_; clear hK K; refine zq9 (listed' := tf 10 4) (by kernel_rfl) rfl ?_; exact CONT wc pc HY.out
  ·
   go_simp; refine cm HCF.out ?_; intro e wc hp; obtain ⟨⟨vc, rfl, hnc⟩, hrd, ha⟩ := hp; obtain ⟨pc, rfl, hmc⟩ := hnc.nv; have ha0 := ((Ap.refl c.R wz.heap.size wz).drew).next ha
   have HY : Hid (Ap c.R wz.heap.size wz wc ∧ Rdr c wc i6 d ∧ NAt (From wz.heap.size) wc b3 pc) := ⟨ha0, hrd, hmc⟩; obtain ⟨gc3, gcf, gcl⟩ := (Open.later HOP.out ha0 HLT.out).cell
   have gcl1 : p0 < wc.heap.size + 1 := by omega
   have gcl2 : p0 < wc.heap.size + 1 + 1 := by omega
   clear hrd ha ha0 hnc hmc; refine hK _ _ ?_; clear hK K; refine wr2 4 7 (fun K hK => ?_) fun K hK => ?_
   ·
    go_simp; refine hK _ _ ?_; clear hK K; refine wr1 7 fun K hK => ?_; go_simp; refine hK _ _ ?_; clear hK K; refine wr1 8 fun K hK => ?_; go_simp
    refine cm (zqk 14 zzx (.slice (some ⟨wc.heap.size, 0, none⟩) 1 1) (wc.alloc (.cells #[nPtr pc] 22)) ⟨_, _, _, rfl⟩) ?_; rintro e wd0 ⟨rfl, rfl⟩; refine hK _ _ ?_; clear hK K; refine wr1 9 fun K hK => ?_
    go_simp; refine hK _ _ ?_; clear hK K; exact Go.Proofs.YtoimgcjbcbhclaaGreatDoor.wz 10 4 (CONT wc pc HY.out)
   ·
    go_simp; refine hK _ _ ?_; clear hK K; refine wr2 4 8 (fun K hK => ?_) fun K hK => ?_
    ·
     go_simp; refine hK _ _ ?_; clear hK K; refine wr1 8 fun K hK => ?_; go_simp; refine cm (zqk 14 zzx (.slice (some ⟨wc.heap.size, 0, none⟩) 1 1) (wc.alloc (.cells #[nPtr pc] 22)) ⟨_, _, _, rfl⟩) ?_
     rintro e wd0 ⟨rfl, rfl⟩; refine hK _ _ ?_; clear hK K; refine wr1 9 fun K hK => ?_; go_simp; refine hK _ _ ?_; clear hK K; exact Go.Proofs.YtoimgcjbcbhclaaGreatDoor.wz 10 4 (CONT wc pc HY.out)
    ·
     go_simp; refine cm (zqk 14 zzx (.slice (some ⟨wc.heap.size, 0, none⟩) 1 1) (wc.alloc (.cells #[nPtr pc] 22)) ⟨_, _, _, rfl⟩) ?_; rintro e wd0 ⟨rfl, rfl⟩; refine hK _ _ ?_; clear hK K
     refine wr2 4 9 (fun K hK => ?_) fun K hK => ?_
     ·
      go_simp; refine hK _ _ ?_; clear hK K; refine wr1 9 fun K hK => ?_; go_simp; refine hK _ _ ?_; clear hK K; exact Go.Proofs.YtoimgcjbcbhclaaGreatDoor.wz 10 4 (CONT wc pc HY.out)
     ·
      go_simp; refine hK _ _ ?_; clear hK K; refine wr1 4 fun K hK => ?_; go_simp; refine hK _ _ ?_; clear hK K; exact Go.Proofs.YtoimgcjbcbhclaaGreatDoor.wz 10 4 (CONT wc pc HY.out)
 intro wc pc hY
 obtain ⟨ha0, hrd, hmc⟩ := hY
 have HAc := qh (HAz.out.next ha0)
 have HA0c := qh ha0
 have HRc := qh hrd
 have HOc := qh (Open.later HOP.out ha0 HLT.out)
 have HNc := qh hmc
 obtain ⟨gc3, gcf, gcl⟩ := HOc.out.cell
 have gcl1 : p0 < wc.heap.size + 1 := by omega
 have gcl2 : p0 < wc.heap.size + 1 + 1 := by omega
 clear hrd ha0 hmc
 obtain ⟨n1, n2, n3⟩ := made (w := wz) HRc.out HA0c.out (NAts.cons HNc.out NAts.nil) (by simp [maxLen]) #[nPtr pc] rfl 1 rfl 14 zzx (wc.heap.size + 1) rfl
 have hbd : Below wc.heap.size wc ((wc.alloc (.cells #[nPtr pc] 22)).alloc (zzk 14 zzx 0 (.slice (some ⟨wc.heap.size, 0, none⟩) 1 1))) := (qb.alloc qv _).alloc (by simp) _
 obtain ⟨wd, hwd⟩ : ∃ wd, wd = (wc.alloc (.cells #[nPtr pc] 22)).alloc (zzk 14 zzx 0 (.slice (some ⟨wc.heap.size, 0, none⟩) 1 1)) := ⟨_, rfl⟩
 have hq : (wc.alloc (.cells #[nPtr pc] 22)).heap.size = wc.heap.size + 1 := by simp
 obtain ⟨q, hqq⟩ : ∃ q, q = wc.heap.size + 1 := ⟨_, rfl⟩
 obtain ⟨pq, hpq, hnq⟩ := n1.nv
 have hpe : pq = wc.heap.size + 1 := by simpa [nPtr] using hpq.symm
 subst hpe
 have hws : wd.heap.size = q + 1 := by rw [hwd, hqq]; simp
 rw [← hwd] at hnq n2 n3 hbd
 try rw [hq]
 rw [← hqq] at hnq
 try rw [← hqq]
 try rw [← hwd]
 have HOd := qh (Open.later HOc.out (Ap.of hbd) HLT.out)
 have HAd := qh (HAc.out.next (Ap.of hbd))
 have HRd := qh n2
 have HNd := qh (Open.apart HOP.out HAz.out.size n3 HLT.out (NAts.cons hnq NAts.nil))
 obtain ⟨ec3, ecf, ecl⟩ := HOd.out.cell
 clear n1 n2 n3 hbd hnq hpq hwd hqq hq gc3 gcf gcl gcl1 gcl2
 have hlen := NAts.length _ _ HOd.out.kids
 have hown := HOd.out.row
 rw [hlen] at hown
 have HOWN := qh hown
 have hsz := HAd.out.size
 have hkl : t0x.kids.length ≤ 3 := by rw [HKL2.out]; decide
 clear hown hlen
 refine wr1 10 fun K hK => ?_
 refine step_append_lies _ rfl _ _ 46 rfl w.heap.size 22 i0' (.pointer none) 1 8 Tryz.underlying46 hi0 hz0 hz1 hz2 rfl (by decide) _ _ _ rfl (HOWN.out.alloc _) ⟨q + 1, 0, none⟩ 1 1 [nPtr q] rfl rfl (zq1 wd q _ hws) (zxv q) (by decide) (by unfold maxLen; omega) (by omega) (by simp; omega) (wd.heap.size + 1) (by simp) ?_
 clear hws
 intro g cap w3 hown3 hgr3 hg3 _
 refine hK _ _ ?_
 clear hK K
 have HP1 := qh (push1 HOd.out HNd.out HRd.out HAd.out HLO.out hown3 hgr3 hg3)
 have hp3 : w3.cell? ⟨p0, 3, none⟩ = wd.cell? ⟨p0, 3, none⟩ ∧ w3.frozen? ⟨p0, 3, none⟩ = wd.frozen? ⟨p0, 3, none⟩ := by
  have hbb : w3.heap[p0]? = wd.heap[p0]? := (hgr3.block p0 (by simp; omega) (fun e => HOd.out.own e.symm)).trans (Below.heap_alloc wd _ p0 ecl)
  exact ⟨World.cell?_of_block (w := wd) hbb, World.frozen?_of_block (w := wd) hbb⟩
 obtain ⟨hp3c, hp3f⟩ := hp3
 rw [ec3] at hp3c
 rw [ecf 3] at hp3f
 clear hown3 hgr3 hg3
 refine wt 11 (nPtr p0) ?_
 refine wt 12 (.pointer (some ⟨p0, 3, none⟩)) ?_
 refine wr1 13 fun K hK => ?_
 go_simp
 refine hK _ _ ?_
 clear hK K hp3c hp3f ec3 ecf ecl HOWN
 refine wpAny_done (by kernel_rfl) ?_ _
 go_simp
 obtain ⟨m1, m2, m3⟩ := zzq HP1
 obtain ⟨t0xx, ht2⟩ : ∃ tq : Tr, tq = .mk t0x.kd t0x.tx t0x.n (t0x.kids ++ [.mk 14 zzx 0 [b3]]) := ⟨_, rfl⟩
 rw [← ht2] at m1
 have HKLt0xx : Hid (t0xx.kids.length = t0x.kids.length + 1) := by
  show _ = _
  rw [ht2]; simp [Tr.kids]
 have HTt0xx := qh ht2
 obtain ⟨pz, uz, psz, hpz, hopz⟩ := m1.opens
 have hpz2 : pz = p0 := by simpa [nPtr] using hpz.symm
 rw [hpz2] at hopz
 obtain ⟨w4, hw4⟩ : ∃ w4, w4 = (w3.setCell ⟨p0, 3, none⟩ (.slice (some ⟨g, 0, none⟩) (t0x.kids.length + 1) cap)) := ⟨_, rfl⟩
 rw [← hw4] at hopz m2 m3
 rw [← hw4]
 clear HOP
 have HOP := qh hopz
 have HR4F := qh m2
 have HA4F := qh m3
 clear m1 m2 m3 hopz hpz hw4 hpz2 ht2 HP1 HCF
 obtain ⟨hc3, hcf, hcl⟩ := HOP.out.cell
 obtain ⟨ua, uc, hue⟩ := HOP.out.shape
 subst hue
 have hk2 : t0xx.kids.length = 3 := by rw [HKLt0xx.out, HKLt0x.out, HKL.out]
 rw [hk2] at hc3
 clear hk2
 go_wp2_with fail
 go_ret
 have e0 := zzq HT0
 have e1 := zzq HTt0x
 have e2 := zzq HTt0xx
 have hnv := HOP.out.ev.nv
 rw [e2, e1, e0] at hnv
 exact ppOk rfl hnv HR4F.out HA4F.out
theorem at_bothbad {c : Ctx} {F : Fns} (hF : FC c F) (hN : ∃ k, FNx c.l k F) (w : World) (d i i0 : Nat) (h : Rdr c w i d) (hm : zz0 c.l tTry i = .ok () i0) (b : Tr) (i1 : Nat) (hb : zq0 c.l F d i0 = .ok b i1) (hc : fx c.l i1 = zj5) (i2 : Nat) (h2 : zz0 c.l zxk (i1 + 1) = .ok () i2) (s : ByteArray) (i3 : Nat) (h3 : zjq c.l i2 = .ok s i3) (i4 : Nat) (h4 : zz0 c.l zjy i3 = .ok () i4) (b2 : Tr) (i5 : Nat) (h5 : zq0 c.l F d i4 = .ok b2 i5) (hf : fx c.l i5 = zxz) (er : Int) (p : Nat) (h6 : zq0 c.l F d (i5 + 1) = .bad er p) : Calls Tryz.prog 170 #[rPtr c] w (zk3 c w d (NV w.heap.size) (.bad er p)) := by
 have HLO := qh h.base.size
 obtain ⟨i0', hi0, hz0, hz1, hz2⟩ := info_parts zk0
 have HR0 := qh h
 have HA0 := qh (Ap.refl c.R w.heap.size w)
 have HLT := qh h.rlt
 clear h
 go_enter Tryz.func170, Tryz.ntmps170
 have HC := qh (zz7 c tTry w i d HR0.out (by decide))
 rw [hm] at HC
 go_wp2_with fail
 refine cm HC.out ?_
 intro e wa hp
 obtain ⟨⟨va, rfl, rfl⟩, hrd, ha⟩ := hp
 clear HC
 have HRa := qh hrd
 have HAa := qh (HA0.out.next ha)
 clear hrd ha
 have HC := qh (zxx hF hN wa d i0 _ rfl (by rw [hb]; nofun) HRa.out)
 rw [hb] at HC
 go_wp2_with fail
 refine cm HC.out ?_
 intro e wb hp
 obtain ⟨⟨vb, rfl, hnb⟩, hrd, ha⟩ := hp
 clear HC
 have HRb := qh hrd
 have HAb := qh (HAa.out.next ha)
 obtain ⟨pb, rfl, hmb⟩ := (EV.mono hnb HAa.out.size).nv
 have HNb := qh hmb
 clear hnb hmb
 clear hrd ha
 have HC := qh (zqk 12 zzx (.slice (some ⟨wb.heap.size, 0, none⟩) 1 1) (wb.alloc (.cells #[nPtr pb] 22)) ⟨_, _, _, rfl⟩)
 go_wp2_with fail
 refine cm HC.out ?_
 rintro e wn0 ⟨rfl, rfl⟩
 clear HC
 obtain ⟨m1, m2, m3⟩ := made HRb.out HAb.out (NAts.cons HNb.out NAts.nil) (by simp [maxLen]) #[nPtr pb] rfl 1 rfl 12 zzx (wb.heap.size + 1) rfl
 obtain ⟨t0, ht0⟩ : ∃ t0 : Tr, t0 = .mk 12 zzx 0 [b] := ⟨_, rfl⟩
 rw [← ht0] at m1
 have HKL : Hid (t0.kids.length = 1) := by
  show _ = _
  rw [ht0]; rfl
 have HT0 := qh ht0
 obtain ⟨p0, u0, ps0, hpe, hop⟩ := m1.opens
 have hpe2 : p0 = wb.heap.size + 1 := by simpa [nPtr] using hpe.symm
 rw [hpe2] at hop
 have HOP := qh hop
 have HRn := qh m2
 have HAn := qh m3
 clear m1 m2 m3 hop hpe ht0
 obtain ⟨wn, hwn⟩ : ∃ wn, wn = (wb.alloc (.cells #[nPtr pb] 22)).alloc (zzk 12 zzx 0 (.slice (some ⟨wb.heap.size, 0, none⟩) 1 1)) := ⟨_, rfl⟩
 rw [← hwn] at HOP HRn HAn
 rw [← hpe2] at HOP
 rw [show (wb.alloc (.cells #[nPtr pb] 22)).heap.size = p0 by rw [hpe2]; simp, ← hwn]
 clear hwn hpe2
 have HC := qh (zkv c zj5 wn i1 d HRn.out hc (by decide))
 go_wp2_with fail
 refine cm HC.out ?_
 rintro e wc ⟨rfl, hrd, ha⟩
 clear HC
 have HRc := qh hrd
 have HAc := qh (HAn.out.next ha)
 replace HOP := qh (Open.later HOP.out (ha) HLT.out)
 clear hrd ha
 have HC := qh (zz7 c zxk wc (i1 + 1) d HRc.out (by decide))
 rw [h2] at HC
 go_wp2_with fail
 refine cm HC.out ?_
 intro e wd hp
 obtain ⟨⟨vd, rfl, rfl⟩, hrd, ha⟩ := hp
 clear HC
 have HRd := qh hrd
 have HAd := qh (HAc.out.next ha)
 replace HOP := qh (Open.later HOP.out (ha) HLT.out)
 clear hrd ha
 have HC := qh (zk1 c wd i2 d HRd.out)
 rw [h3] at HC
 go_wp2_with fail
 refine cm HC.out ?_
 intro e we hp
 obtain ⟨⟨ve, rfl, rfl⟩, hrd, ha⟩ := hp
 clear HC
 have HRe := qh hrd
 have HAe := qh (HAd.out.next ha)
 replace HOP := qh (Open.later HOP.out (ha) HLT.out)
 clear hrd ha
 have HC := qh (zz7 c zjy we i3 d HRe.out (by decide))
 rw [h4] at HC
 go_wp2_with fail
 refine cm HC.out ?_
 intro e wg1 hp
 obtain ⟨⟨vg1, rfl, rfl⟩, hrd, ha⟩ := hp
 clear HC
 have HRg1 := qh hrd
 have HAg1 := qh (HAe.out.next ha)
 replace HOP := qh (Open.later HOP.out (ha) HLT.out)
 clear hrd ha
 have HCC := qh (zxx hF hN wg1.drew d i4 _ rfl (by rw [h5]; nofun) HRg1.out.drew)
 rw [h5] at HCC
 obtain ⟨hc3, hcf, hcl⟩ := HOP.out.cell
 obtain ⟨ua, uc, hue⟩ := HOP.out.shape
 subst hue
 go_wp2_with fail
 refine via2 (H := fun wc pc => Ap c.R wg1.heap.size wg1 wc ∧ Rdr c wc i5 d ∧ NAt (From wg1.heap.size) wc b2 pc) (G := ?G5) (fun CONT => ?_) ?_
 rotate_left
 ·
  refine wp_region_any (by kernel_rfl) ?_; change wpAny _ _ _ _ _ _ _ (World.drew _); refine wt 0 (nPtr p0) ?_; refine wt 1 (nPtr p0) ?_; refine wt 2 (nPtr p0) ?_; refine wt 3 (.pointer (some ⟨p0, 3, none⟩)) ?_
  refine wt 5 (.string s) ?_; refine wt 6 (rPtr c) ?_; refine wr2 4 7 (fun K hK => ?_) fun K hK => ?_
  ·
   go_simp; refine hK _ _ ?_; clear hK K; refine wr1 7 fun K hK => ?_; go_simp; refine cm HCC.out ?_; intro e wc hp; obtain ⟨⟨vc, rfl, hnc⟩, hrd, ha⟩ := hp; obtain ⟨pc, rfl, hmc⟩ := hnc.nv
   have ha0 := ((Ap.refl c.R wg1.heap.size wg1).drew).next ha; have HY : Hid (Ap c.R wg1.heap.size wg1 wc ∧ Rdr c wc i5 d ∧ NAt (From wg1.heap.size) wc b2 pc) := ⟨ha0, hrd, hmc⟩
   obtain ⟨gc3, gcf, gcl⟩ := (Open.later HOP.out ha0 HLT.out).cell; have gcl1 : p0 < wc.heap.size + 1 := by omega
   have gcl2 : p0 < wc.heap.size + 1 + 1 := by omega
   clear hrd ha ha0 hnc hmc; refine hK _ _ ?_; clear hK K; refine wr1 8 fun K hK => ?_; go_simp; refine hK _ _ ?_; clear hK K; refine wr1 9 fun K hK => ?_; go_simp
   refine cm (zqk 13 s (.slice (some ⟨wc.heap.size, 0, none⟩) 1 1) (wc.alloc (.cells #[nPtr pc] 22)) ⟨_, _, _, rfl⟩) ?_; rintro e wd0 ⟨rfl, rfl⟩; refine hK _ _ ?_; clear hK K; refine wr1 10 fun K hK => ?_; go_simp
   refine hK _ _ ?_; clear hK K; refine zq9 (listed' := tf 11 4) (by kernel_rfl) rfl ?_; exact CONT wc pc HY.out
  ·
   go_simp; refine cm HCC.out ?_; intro e wc hp; obtain ⟨⟨vc, rfl, hnc⟩, hrd, ha⟩ := hp; obtain ⟨pc, rfl, hmc⟩ := hnc.nv; have ha0 := ((Ap.refl c.R wg1.heap.size wg1).drew).next ha
   have HY : Hid (Ap c.R wg1.heap.size wg1 wc ∧ Rdr c wc i5 d ∧ NAt (From wg1.heap.size) wc b2 pc) := ⟨ha0, hrd, hmc⟩; obtain ⟨gc3, gcf, gcl⟩ := (Open.later HOP.out ha0 HLT.out).cell
   have gcl1 : p0 < wc.heap.size + 1 := by omega
   have gcl2 : p0 < wc.heap.size + 1 + 1 := by omega
   clear hrd ha ha0 hnc hmc; refine hK _ _ ?_; clear hK K; refine wr2 4 8 (fun K hK => ?_) fun K hK => ?_
   ·
    go_simp; refine hK _ _ ?_; clear hK K; refine wr1 8 fun K hK => ?_; go_simp; refine hK _ _ ?_; clear hK K; refine wr1 9 fun K hK => ?_; go_simp
    refine cm (zqk 13 s (.slice (some ⟨wc.heap.size, 0, none⟩) 1 1) (wc.alloc (.cells #[nPtr pc] 22)) ⟨_, _, _, rfl⟩) ?_; rintro e wd0 ⟨rfl, rfl⟩; refine hK _ _ ?_; clear hK K; refine wr1 10 fun K hK => ?_; go_simp
    refine hK _ _ ?_; clear hK K; exact Go.Proofs.YtoimgcjbcbhclaaGreatDoor.wz 11 4 (CONT wc pc HY.out)
   ·
    go_simp; refine hK _ _ ?_; clear hK K; refine wr2 4 9 (fun K hK => ?_) fun K hK => ?_
    ·
     go_simp; refine hK _ _ ?_; clear hK K; refine wr1 9 fun K hK => ?_; go_simp; refine cm (zqk 13 s (.slice (some ⟨wc.heap.size, 0, none⟩) 1 1) (wc.alloc (.cells #[nPtr pc] 22)) ⟨_, _, _, rfl⟩) ?_
     rintro e wd0 ⟨rfl, rfl⟩; refine hK _ _ ?_; clear hK K; refine wr1 10 fun K hK => ?_; go_simp; refine hK _ _ ?_; clear hK K; exact Go.Proofs.YtoimgcjbcbhclaaGreatDoor.wz 11 4 (CONT wc pc HY.out)
    ·
     go_simp; refine cm (zqk 13 s (.slice (some ⟨wc.heap.size, 0, none⟩) 1 1) (wc.alloc (.cells #[nPtr pc] 22)) ⟨_, _, _, rfl⟩) ?_; rintro e wd0 ⟨rfl, rfl⟩; refine hK _ _ ?_; clear hK K
     refine wr2 4 10 (fun K hK => ?_) fun K hK => ?_
     ·
      go_simp; refine hK _ _ ?_; clear hK K; refine wr1 10 fun K hK => ?_; go_simp; refine hK _ _ ?_; clear hK K; exact Go.Proofs.YtoimgcjbcbhclaaGreatDoor.wz 11 4 (CONT wc pc HY.out)
     ·
      go_simp; refine hK _ _ ?_; clear hK K; refine wr1 4 fun K hK => ?_; go_simp; refine hK _ _ ?_; clear hK K; exact Go.Proofs.YtoimgcjbcbhclaaGreatDoor.wz 11 4 (CONT wc pc HY.out)
 intro wc pc hY
 obtain ⟨ha0, hrd, hmc⟩ := hY
 have HAc := qh (HAg1.out.next ha0)
 have HA0c := qh ha0
 have HRc := qh hrd
 have HOc := qh (Open.later HOP.out ha0 HLT.out)
 have HNc := qh hmc
 obtain ⟨gc3, gcf, gcl⟩ := HOc.out.cell
 have gcl1 : p0 < wc.heap.size + 1 := by omega
 have gcl2 : p0 < wc.heap.size + 1 + 1 := by omega
 clear hrd ha0 hmc
 obtain ⟨n1, n2, n3⟩ := made (w := wg1) HRc.out HA0c.out (NAts.cons HNc.out NAts.nil) (by simp [maxLen]) #[nPtr pc] rfl 1 rfl 13 s (wc.heap.size + 1) rfl
 have hbd : Below wc.heap.size wc ((wc.alloc (.cells #[nPtr pc] 22)).alloc (zzk 13 s 0 (.slice (some ⟨wc.heap.size, 0, none⟩) 1 1))) := (qb.alloc qv _).alloc (by simp) _
 obtain ⟨wd, hwd⟩ : ∃ wd, wd = (wc.alloc (.cells #[nPtr pc] 22)).alloc (zzk 13 s 0 (.slice (some ⟨wc.heap.size, 0, none⟩) 1 1)) := ⟨_, rfl⟩
 have hq : (wc.alloc (.cells #[nPtr pc] 22)).heap.size = wc.heap.size + 1 := by simp
 obtain ⟨q, hqq⟩ : ∃ q, q = wc.heap.size + 1 := ⟨_, rfl⟩
 obtain ⟨pq, hpq, hnq⟩ := n1.nv
 have hpe : pq = wc.heap.size + 1 := by simpa [nPtr] using hpq.symm
 subst hpe
 have hws : wd.heap.size = q + 1 := by rw [hwd, hqq]; simp
 rw [← hwd] at hnq n2 n3 hbd
 try rw [hq]
 rw [← hqq] at hnq
 try rw [← hqq]
 try rw [← hwd]
 have HOd := qh (Open.later HOc.out (Ap.of hbd) HLT.out)
 have HAd := qh (HAc.out.next (Ap.of hbd))
 have HRd := qh n2
 have HNd := qh (Open.apart HOP.out HAg1.out.size n3 HLT.out (NAts.cons hnq NAts.nil))
 obtain ⟨ec3, ecf, ecl⟩ := HOd.out.cell
 clear n1 n2 n3 hbd hnq hpq hwd hqq hq gc3 gcf gcl gcl1 gcl2
 have hlen := NAts.length _ _ HOd.out.kids
 have hown := HOd.out.row
 rw [hlen] at hown
 have HOWN := qh hown
 have hsz := HAd.out.size
 have hkl : t0.kids.length ≤ 3 := by rw [HKL.out]; decide
 clear hown hlen
 refine wr1 11 fun K hK => ?_
 refine step_append_lies _ rfl _ _ 46 rfl w.heap.size 22 i0' (.pointer none) 1 8 Tryz.underlying46 hi0 hz0 hz1 hz2 rfl (by decide) _ _ _ rfl (HOWN.out.alloc _) ⟨q + 1, 0, none⟩ 1 1 [nPtr q] rfl rfl (zq1 wd q _ hws) (zxv q) (by decide) (by unfold maxLen; omega) (by omega) (by simp; omega) (wd.heap.size + 1) (by simp) ?_
 clear hws
 intro g cap w3 hown3 hgr3 hg3 _
 refine hK _ _ ?_
 clear hK K
 have HP1 := qh (push1 HOd.out HNd.out HRd.out HAd.out HLO.out hown3 hgr3 hg3)
 have hp3 : w3.cell? ⟨p0, 3, none⟩ = wd.cell? ⟨p0, 3, none⟩ ∧ w3.frozen? ⟨p0, 3, none⟩ = wd.frozen? ⟨p0, 3, none⟩ := by
  have hbb : w3.heap[p0]? = wd.heap[p0]? := (hgr3.block p0 (by simp; omega) (fun e => HOd.out.own e.symm)).trans (Below.heap_alloc wd _ p0 ecl)
  exact ⟨World.cell?_of_block (w := wd) hbb, World.frozen?_of_block (w := wd) hbb⟩
 obtain ⟨hp3c, hp3f⟩ := hp3
 rw [ec3] at hp3c
 rw [ecf 3] at hp3f
 clear hown3 hgr3 hg3
 refine wt 12 (nPtr p0) ?_
 refine wt 13 (.pointer (some ⟨p0, 3, none⟩)) ?_
 refine wr1 14 fun K hK => ?_
 go_simp
 refine hK _ _ ?_
 clear hK K hp3c hp3f ec3 ecf ecl HOWN
 refine wpAny_done (by kernel_rfl) ?_ _
 go_simp
 obtain ⟨m1, m2, m3⟩ := zzq HP1
 obtain ⟨t0x, ht2⟩ : ∃ tq : Tr, tq = .mk t0.kd t0.tx t0.n (t0.kids ++ [.mk 13 s 0 [b2]]) := ⟨_, rfl⟩
 rw [← ht2] at m1
 have HKLt0x : Hid (t0x.kids.length = t0.kids.length + 1) := by
  show _ = _
  rw [ht2]; simp [Tr.kids]
 have HTt0x := qh ht2
 obtain ⟨pz, uz, psz, hpz, hopz⟩ := m1.opens
 have hpz2 : pz = p0 := by simpa [nPtr] using hpz.symm
 rw [hpz2] at hopz
 obtain ⟨w4, hw4⟩ : ∃ w4, w4 = (w3.setCell ⟨p0, 3, none⟩ (.slice (some ⟨g, 0, none⟩) (t0.kids.length + 1) cap)) := ⟨_, rfl⟩
 rw [← hw4] at hopz m2 m3
 rw [← hw4]
 clear HOP
 have HOP := qh hopz
 have HR4C := qh m2
 have HA4C := qh m3
 clear m1 m2 m3 hopz hpz hw4 hpz2 ht2 HP1 HCC
 have HC := qh (zkv c zxz w4 i5 d HR4C.out hf (by decide))
 go_wp2_with fail
 refine cm HC.out ?_
 rintro e wz ⟨rfl, hrd, ha⟩
 clear HC
 have HRz := qh hrd
 have HAz := qh (HA4C.out.next ha)
 replace HOP := qh (Open.later HOP.out (ha) HLT.out)
 clear hrd ha
 have HKL2 : Hid (t0x.kids.length = 2) := by
  show _ = _
  rw [HKLt0x.out, HKL.out]
 have HCF := qh (zxx hF hN wz.drew d (i5 + 1) _ rfl (by rw [h6]; nofun) HRz.out.drew)
 rw [h6] at HCF
 obtain ⟨hc3, hcf, hcl⟩ := HOP.out.cell
 obtain ⟨ua, uc, hue⟩ := HOP.out.shape
 subst hue
 go_wp2_with fail
 refine wp_region_any (by kernel_rfl) ?_
 change wpAny _ _ _ _ _ _ _ (World.drew _)
 refine wt 0 (nPtr p0) ?_
 refine wt 1 (nPtr p0) ?_
 refine wt 2 (nPtr p0) ?_
 refine wt 3 (.pointer (some ⟨p0, 3, none⟩)) ?_
 refine wt 5 (rPtr c) ?_
 refine wr2 4 6 (fun K hK => ?_) fun K hK => ?_
 ·
  go_simp; refine hK _ _ ?_; clear hK K; refine wr1 6 fun K hK => ?_; go_simp; refine cm HCF.out ?_; intro e wc hp; obtain ⟨rfl, ha⟩ := hp; exact ⟨rfl, zq7 rfl (HAz.out.drew.next ha)⟩
 ·
  go_simp; refine cm HCF.out ?_; intro e wc hp; obtain ⟨rfl, ha⟩ := hp; exact ⟨rfl, zq7 rfl (HAz.out.drew.next ha)⟩
theorem zq6 {α β : Type} {r : PR α} {f : α → Nat → PR β} {y : β} {j : Nat} (h : r.bind f = .ok y j) : ∃ x i, r = .ok x i ∧ f x i = .ok y j := by
 cases r with
 | ok x i => exact ⟨x, i, rfl, h⟩
 | bad er p => cases h
 | out => cases h
theorem hd_ne {s : ByteArray} : zk9 s ≠ 15 := by
 unfold zk9 zxy
 cases hf : hds.find? (fun e => decide (s = e.1)) with
 | none => decide
 | some e =>
  have hm := List.mem_of_find?_eq_some hf; simp only [hds, List.mem_cons, List.not_mem_nil, or_false] at hm
  rcases hm with rfl | rfl | rfl | rfl | rfl | rfl | rfl | rfl <;> decide
theorem funcTail_kd {l : List Tk} {F : Fns} {kd : Int} {s : ByteArray} {d i j : Nat} {t : Tr} (h : zw0 l F kd s d i = .ok t j) : t.kd = kd := by
 unfold zw0 at h
 obtain ⟨_, _, _, h⟩ := zq6 h
 obtain ⟨_, _, _, h⟩ := zq6 h
 cases h; rfl
theorem part_kd {l : List Tk} {F : Fns} {d q i j : Nat} {t : Tr} (h : partP l F d q i = .ok t j) : t.kd ≠ 15 := by
 unfold partP at h
 split at h
 ·
  unfold zf0 at h; obtain ⟨_, _, _, h⟩ := zq6 h
  split at h
  ·
   cases h
  ·
   split at h
   ·
    obtain ⟨_, _, _, h⟩ := zq6 h; obtain ⟨_, _, _, h⟩ := zq6 h
    cases h; exact hd_ne
   ·
    obtain ⟨_, _, _, h⟩ := zq6 h
    cases h; exact hd_ne
 ·
  unfold funcP at h; obtain ⟨_, _, _, h⟩ := zq6 h; obtain ⟨_, _, _, h⟩ := zq6 h; rw [funcTail_kd h]; decide
 ·
  unfold zq0 at h; obtain ⟨_, _, _, h⟩ := zq6 h; obtain ⟨_, _, _, h⟩ := zq6 h; cases h
  show (6 : Int) ≠ 15
  decide
 ·
  obtain ⟨_, _, _, h⟩ := zq6 h
  cases h; decide
 ·
  unfold zy2 at h; obtain ⟨_, _, _, h⟩ := zq6 h; obtain ⟨_, _, _, h⟩ := zq6 h
  split at h
  ·
   obtain ⟨_, _, _, h⟩ := zq6 h
   cases h; exact hd_ne
  ·
   cases h; exact hd_ne
 ·
  unfold zvy at h; obtain ⟨_, _, _, h⟩ := zq6 h; obtain ⟨_, _, _, h⟩ := zq6 h
  cases h; exact hd_ne
 ·
  unfold zw9 at h
  split at h
  ·
   obtain ⟨_, _, _, h⟩ := zq6 h; obtain ⟨_, _, _, h⟩ := zq6 h
   cases h; exact hd_ne
  ·
   obtain ⟨_, _, _, h⟩ := zq6 h
   cases h; exact hd_ne
 ·
  unfold zw2 at h; obtain ⟨_, _, _, h⟩ := zq6 h; obtain ⟨_, _, _, h⟩ := zq6 h; obtain ⟨_, _, _, h⟩ := zq6 h; obtain ⟨_, _, _, h⟩ := zq6 h
  split at h
  ·
   cases h
  ·
   cases h
   show (12 : Int) ≠ 15
   decide
theorem fns_ok (l : List Tk) : ∀ k, FOk (fns l k) := by
 intro k
 cases k with
 | zero => intro d i t j h; cases h
 | succ k =>
  intro d i t j h h15; have h' : zvx l (fns l k) d i = .ok t j := h; unfold zvx at h'
  split at h'
  ·
   exact absurd h15 (part_kd h')
  ·
   unfold zn0 at h'; obtain ⟨v, _, _, h'⟩ := zq6 h'; obtain ⟨_, _, _, h'⟩ := zq6 h'
   cases h'
   exact ⟨v, [], rfl⟩
theorem attempt_any {c : Ctx} {F : Fns} (hF : FC c F) (hN : ∃ k, FNx c.l k F) : Does c 170 NV (zw2 c.l F) := by
 intro w d i r hs ho h
 unfold zw2 at hs
 cases hm : zz0 c.l tTry i with
 | out => rw [hm] at hs; exact absurd hs.symm ho
 | bad er p => rw [hm, zz6] at hs; subst hs; exact at_m w d i h er p hm
 | ok x i0 =>
  rw [hm, zzv] at hs
  cases hb : zq0 c.l F d i0 with
  | out => rw [hb] at hs; exact absurd hs.symm ho
  | bad er p => rw [hb, zz6] at hs; subst hs; exact at_b hF hN w d i i0 h hm er p hb
  | ok b i1 =>
   rw [hb, zzv] at hs; unfold zy3 at hs
   by_cases hc : fx c.l i1 = zj5
   ·
    rw [if_pos hc, zyx] at hs
    cases h2 : zz0 c.l zxk (i1 + 1) with
    | out => rw [h2] at hs; exact absurd hs.symm ho
    | bad er p => rw [h2, zz6] at hs; subst hs; exact at_c1 hF hN w d i i0 h hm b i1 hb hc er p h2
    | ok x2 i2 =>
     rw [h2, zzv, zyx] at hs
     cases h3 : zjq c.l i2 with
     | out => rw [h3] at hs; exact absurd hs.symm ho
     | bad er p => rw [h3, zz6] at hs; subst hs; exact at_c2 hF hN w d i i0 h hm b i1 hb hc i2 h2 er p h3
     | ok s i3 =>
      rw [h3, zzv, zyx] at hs
      cases h4 : zz0 c.l zjy i3 with
      | out => rw [h4] at hs; exact absurd hs.symm ho
      | bad er p => rw [h4, zz6] at hs; subst hs; exact at_c3 hF hN w d i i0 h hm b i1 hb hc i2 h2 s i3 h3 er p h4
      | ok x4 i4 =>
       rw [h4, zzv, zyx] at hs
       cases h5 : zq0 c.l F d i4 with
       | out => rw [h5] at hs; exact absurd hs.symm ho
       | bad er p => rw [h5, zz6] at hs; subst hs; exact at_c4 hF hN w d i i0 h hm b i1 hb hc i2 h2 s i3 h3 i4 h4 er p h5
       | ok b2 i5 =>
        rw [h5, zzv, zzv] at hs; unfold zxw at hs
        by_cases hf : fx c.l i5 = zxz
        ·
         rw [if_pos hf, zyx] at hs
         cases h6 : zq0 c.l F d (i5 + 1) with
         | out => rw [h6] at hs; exact absurd hs.symm ho
         | bad er p => rw [h6, zz6] at hs; subst hs; exact at_bothbad hF hN w d i i0 h hm b i1 hb hc i2 h2 s i3 h3 i4 h4 b2 i5 h5 hf er p h6
         | ok b3 i6 =>
          rw [h6, zzv, zzv, if_neg (by simp)] at hs; subst hs; exact at_both hF hN w d i i0 h hm b i1 hb hc i2 h2 s i3 h3 i4 h4 b2 i5 h5 hf b3 i6 h6
        ·
         rw [if_neg hf, zzv, if_neg (by simp)] at hs; subst hs; exact at_catch hF hN w d i i0 h hm b i1 hb hc i2 h2 s i3 h3 i4 h4 b2 i5 h5 hf
   ·
    rw [if_neg hc, zzv] at hs; unfold zxw at hs
    by_cases hf : fx c.l i1 = zxz
    ·
     rw [if_pos hf, zyx] at hs
     cases h6 : zq0 c.l F d (i1 + 1) with
     | out => rw [h6] at hs; exact absurd hs.symm ho
     | bad er p => rw [h6, zz6] at hs; subst hs; exact at_finbad hF hN w d i i0 h hm b i1 hb hc hf er p h6
     | ok b3 i6 =>
      rw [h6, zzv, zzv, if_neg (by simp)] at hs; subst hs; exact at_fin hF hN w d i i0 h hm b i1 hb hc hf b3 i6 h6
    ·
     rw [if_neg hf, zzv, if_pos (by simp)] at hs; subst hs; exact at_none hF hN w d i i0 h hm b i1 hb hc hf
theorem en127 : ∀ args W, (callFunc 163 args).run Tryz.prog W = .ok (.enter 163 args) W := fun _ _ => by kernel_rfl
theorem en128 : ∀ args W, (callFunc 164 args).run Tryz.prog W = .ok (.enter 164 args) W := fun _ _ => by kernel_rfl
theorem en129 : ∀ args W, (callFunc 165 args).run Tryz.prog W = .ok (.enter 165 args) W := fun _ _ => by kernel_rfl
theorem en130 : ∀ args W, (callFunc 166 args).run Tryz.prog W = .ok (.enter 166 args) W := fun _ _ => by kernel_rfl
theorem en131 : ∀ args W, (callFunc 167 args).run Tryz.prog W = .ok (.enter 167 args) W := fun _ _ => by kernel_rfl
theorem en132 : ∀ args W, (callFunc 168 args).run Tryz.prog W = .ok (.enter 168 args) W := fun _ _ => by kernel_rfl
theorem en133 : ∀ args W, (callFunc 169 args).run Tryz.prog W = .ok (.enter 169 args) W := fun _ _ => by kernel_rfl
theorem en134 : ∀ args W, (callFunc 170 args).run Tryz.prog W = .ok (.enter 170 args) W := fun _ _ => by kernel_rfl
theorem st_lt {s : ByteArray} {q : Nat} (h : zxy stKeys s = some q) : q < 8 := by
 unfold zxy at h
 cases hf : stKeys.find? (fun e => decide (s = e.1)) with
 | none => rw [hf] at h; cases h
 | some e =>
  rw [hf] at h; have hm := List.mem_of_find?_eq_some hf; simp only [Option.map_some, Option.some.injEq] at h; subst h; simp only [stKeys, List.mem_cons, List.not_mem_nil, or_false] at hm
  rcases hm with rfl | rfl | rfl | rfl | rfl | rfl | rfl | rfl | rfl | rfl | rfl | rfl <;> decide
theorem ppEV {c : Ctx} {w : World} {d : Nat} {r : PR Tr} {e : Ending} {w' : World} (h : zk3 c w d (EV w.heap.size) r e w') : zk3 c w d (NV w.heap.size) r e w' := by
 cases r with
 | ok x j =>
  obtain ⟨⟨v, h1, h2⟩, h3, h4⟩ := h; exact ⟨⟨v, h1, h2.nv⟩, h3, h4⟩
 | bad er p => exact h
 | out => exact h
theorem statement_any {c : Ctx} {F : Fns} (hF : FC c F) (hN : ∃ k, FNx c.l k F) (hK : FOk F) : Does c 176 NV (zvx c.l F) := by
 intro w d i r hs ho h
 unfold zvx at hs
 cases hq : zxy stKeys (fx c.l i) with
 | none => rw [hq] at hs; exact st_none hF w d i r hs ho hq h
 | some q =>
  rw [hq] at hs; have hlt := st_lt hq; have hk6 : (tkA c.l i).kd ≠ 6 := fun h6 => by
   have : fx c.l i = zzx := by unfold fx; rw [h6]; rfl
   have h0 : zxy stKeys zzx = none := by decide
   rw [this, h0] at hq; cases hq
  have h8 : q = 0 ∨ q = 1 ∨ q = 2 ∨ q = 3 ∨ q = 4 ∨ q = 5 ∨ q = 6 ∨ q = 7 := by omega
  rcases h8 with rfl | rfl | rfl | rfl | rfl | rfl | rfl | rfl
  ·
   exact zf4 163 en127 w d i r ho 0 hq rfl (fun W hW => decl_any hF W d i r hk6 hs ho hW) h
  ·
   exact zf4 164 en128 w d i r ho 1 hq rfl (fun W hW => func_any hF hN hK W d i r hs ho hW) h
  ·
   exact zf4 165 en129 w d i r ho 2 hq rfl (fun W hW => (zxx hF hN W d i r hs ho hW).mono fun e w' hp => ppEV hp) h
  ·
   exact zf4 166 en130 w d i r ho 3 hq rfl (fun W hW => empty_any W d i r hs ho hW) h
  ·
   exact zf4 167 en131 w d i r ho 4 hq rfl (fun W hW => choice_any hF W d i r hk6 hs ho hW) h
  ·
   exact zf4 168 en132 w d i r ho 5 hq rfl (fun W hW => (znz hF W d i r hk6 hs ho hW).mono fun e w' hp => ppEV hp) h
  ·
   exact zf4 169 en133 w d i r ho 6 hq rfl (fun W hW => giving_any hF W d i r hk6 hs ho hW) h
  ·
   exact zf4 170 en134 w d i r ho 7 hq rfl (fun W hW => attempt_any hF hN W d i r hs ho hW) h
theorem fns_does (c : Ctx) (hE : Ends c.l) : ∀ k, FC c (fns c.l k) := by
 intro k
 induction k with
 | zero => exact ⟨fun _ _ _ r hs ho _ => absurd hs.symm ho, fun _ _ _ r hs ho _ => absurd hs.symm ho, fun _ _ _ _ _ _ r hs ho _ => absurd hs.symm ho, fun _ _ _ r hs ho _ => absurd hs.symm ho⟩
 | succ k ih =>
  have hN : ∃ q, FNx c.l q (fns c.l k) := ⟨k, fns_nx hE k⟩
  exact ⟨statement_any ih hN (fns_ok c.l k), value_any ih, fun b _ _ w d i r hs ho h => pair_any ih hN b w d i r hs ho h, single_any ih (asked_any ih hN (fns_ok c.l k))⟩
end Go.Proofs.YtoimgcjbcbhclaaGreatDoor
