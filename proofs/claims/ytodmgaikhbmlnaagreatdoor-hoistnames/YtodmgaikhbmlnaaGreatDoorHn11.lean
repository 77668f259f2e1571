/-
  try, with catch, or finally, or both.
-/
import Derived.Test.YtodmgaikhbmlnaaGreatDoorHn0
import Derived.Test.YtodmgaikhbmlnaaGreatDoorHn4
import Derived.Test.YtodmgaikhbmlnaaGreatDoorHn7
import Derived.Deep.MidRow
import Derived.Laws.AppendOwnNone
import Derived.Test.YtodmgaikhbmlnaaGreatDoorHn6
import Derived.Test.YtodmgaikhbmlnaaGreatDoorHn8
import Derived.Test.YtodmgaikhbmlnaaGreatDoorHn9
import Derived.Test.YtodmgaikhbmlnaaGreatDoorHn10
import Derived.Test.YtodmgaikhbmlnaaGreatDoorHn2
set_option maxRecDepth 100000
set_option maxHeartbeats 16000000
namespace Go.Proofs.YtodmgaikhbmlnaaGreatDoor
open Go.RowKit
theorem at_m {c : Ctx} (w : World) (d i : Nat) (h : Rdr c w i d) (er : Int) (p : Nat) (hm : zz0 c.l tTry i = .bad er p) : Calls Tryz.prog 164 #[rPtr c] w (zk6 c w d (NV w.heap.size) (.bad er p)) := by
 have HR0 := qh h
 have HA0 := qh (Ap.refl c.R w.heap.size w)
 clear h
 go_enter Tryz.func164, Tryz.ntmps164
 have HC := qh (zz8 c tTry w i d HR0.out (by decide))
 rw [hm] at HC
 go_wp2_with fail
 refine cm HC.out ?_
 intro e w' hp
 obtain ⟨rfl, ha⟩ := hp
 exact ⟨rfl, zq9 rfl (HA0.out.next ha)⟩
theorem at_both {c : Ctx} {F : Fns} (hF : FC c F) (hN : ∃ k, FNx c.l k F) (w : World) (d i i0 : Nat) (h : Rdr c w i d) (hm : zz0 c.l tTry i = .ok () i0) (b : Tr) (i1 : Nat) (hb : zq2 c.l F d i0 = .ok b i1) (hc : fx c.l i1 = zj8) (i2 : Nat) (h2 : zz0 c.l zxw (i1 + 1) = .ok () i2) (s : ByteArray) (i3 : Nat) (h3 : zjq c.l i2 = .ok s i3) (i4 : Nat) (h4 : zz0 c.l zjy i3 = .ok () i4) (b2 : Tr) (i5 : Nat) (h5 : zq2 c.l F d i4 = .ok b2 i5) (hf : fx c.l i5 = zxq) (b3 : Tr) (i6 : Nat) (h6 : zq2 c.l F d (i5 + 1) = .ok b3 i6) : Calls Tryz.prog 164 #[rPtr c] w (zk6 c w d (NV w.heap.size) (.ok (.mk 12 zzx 0 [b, .mk 13 s 0 [b2], .mk 14 zzx 0 [b3]]) i6)) := by
 have HLO := qh h.base.size
 obtain ⟨i0', hi0, hz0, hz1, hz2⟩ := info_parts zkw
 have HR0 := qh h
 have HA0 := qh (Ap.refl c.R w.heap.size w)
 have HLT := qh h.rlt
 clear h
 go_enter Tryz.func164, Tryz.ntmps164
 have HC := qh (zz8 c tTry w i d HR0.out (by decide))
 rw [hm] at HC
 go_wp2_with fail
 refine cm HC.out ?_
 intro e wa hp
 obtain ⟨⟨va, rfl, rfl⟩, hrd, ha⟩ := hp
 clear HC
 have HRa := qh hrd
 have HAa := qh (HA0.out.next ha)
 clear hrd ha
 have HC := qh (zxk hF hN wa d i0 _ rfl (by rw [hb]; nofun) HRa.out)
 rw [hb] at HC
 go_wp2_with fail
 refine cm HC.out ?_
 intro e wb hp
 obtain ⟨⟨vb, rfl, hnb⟩, hrd, ha⟩ := hp
 clear HC
 have HRb := qh hrd
 have HAb := qh (HAa.out.next ha)
 obtain ⟨pb, rfl, hmb⟩ := (EV.mono hnb HAa.out.size).nv
 have HNb := qh hmb
 clear hnb hmb
 clear hrd ha
 have HC := qh (zqw 12 zzx (.slice (some ⟨wb.heap.size, 0, none⟩) 1 1) (wb.alloc (.cells #[nPtr pb] 22)) ⟨_, _, _, rfl⟩)
 go_wp2_with fail
 refine cm HC.out ?_
 rintro e wn0 ⟨rfl, rfl⟩
 clear HC
 obtain ⟨m1, m2, m3⟩ := made HRb.out HAb.out (NAts.cons HNb.out NAts.nil) (by simp [maxLen]) #[nPtr pb] rfl 1 rfl 12 zzx (wb.heap.size + 1) rfl
 obtain ⟨t0, ht0⟩ : ∃ t0 : Tr, t0 = .mk 12 zzx 0 [b] := ⟨_, rfl⟩
 rw [← ht0] at m1
 have HKL : Hid (t0.kids.length = 1) := by
  show _ = _
  rw [ht0]; rfl
 have HT0 := qh ht0
 obtain ⟨p0, u0, ps0, hpe, hop⟩ := m1.opens
 have hpe2 : p0 = wb.heap.size + 1 := by simpa [nPtr] using hpe.symm
 rw [hpe2] at hop
 have HOP := qh hop
 have HRn := qh m2
 have HAn := qh m3
 clear m1 m2 m3 hop hpe ht0
 obtain ⟨wn, hwn⟩ : ∃ wn, wn = (wb.alloc (.cells #[nPtr pb] 22)).alloc (zzk 12 zzx 0 (.slice (some ⟨wb.heap.size, 0, none⟩) 1 1)) := ⟨_, rfl⟩
 rw [← hwn] at HOP HRn HAn
 rw [← hpe2] at HOP
 rw [show (wb.alloc (.cells #[nPtr pb] 22)).heap.size = p0 by rw [hpe2]; simp, ← hwn]
 clear hwn hpe2
 have HC := qh (zk0 c zj8 wn i1 d HRn.out hc (by decide))
 go_wp2_with fail
 refine cm HC.out ?_
 rintro e wc ⟨rfl, hrd, ha⟩
 clear HC
 have HRc := qh hrd
 have HAc := qh (HAn.out.next ha)
 replace HOP := qh (Open.later HOP.out (ha) HLT.out)
 clear hrd ha
 have HC := qh (zz8 c zxw wc (i1 + 1) d HRc.out (by decide))
 rw [h2] at HC
 go_wp2_with fail
 refine cm HC.out ?_
 intro e wd hp
 obtain ⟨⟨vd, rfl, rfl⟩, hrd, ha⟩ := hp
 clear HC
 have HRd := qh hrd
 have HAd := qh (HAc.out.next ha)
 replace HOP := qh (Open.later HOP.out (ha) HLT.out)
 clear hrd ha
 have HC := qh (zk4 c wd i2 d HRd.out)
 rw [h3] at HC
 go_wp2_with fail
 refine cm HC.out ?_
 intro e we hp
 obtain ⟨⟨ve, rfl, rfl⟩, hrd, ha⟩ := hp
 clear HC
 have HRe := qh hrd
 have HAe := qh (HAd.out.next ha)
 replace HOP := qh (Open.later HOP.out (ha) HLT.out)
 clear hrd ha
 have HC := qh (zz8 c zjy we i3 d HRe.out (by decide))
 rw [h4] at HC
 go_wp2_with fail
 refine cm HC.out ?_
 intro e wg1 hp
 obtain ⟨⟨vg1, rfl, rfl⟩, hrd, ha⟩ := hp
 clear HC
 have HRg1 := qh hrd
 have HAg1 := qh (HAe.out.next ha)
 replace HOP := qh (Open.later HOP.out (ha) HLT.out)
 clear hrd ha
 have HCC := qh (zxk hF hN wg1.drew d i4 _ rfl (by rw [h5]; nofun) HRg1.out.drew)
 rw [h5] at HCC
 obtain ⟨hc3, hcf, hcl⟩ := HOP.out.cell
 obtain ⟨ua, uc, hue⟩ := HOP.out.shape
 subst hue
 go_wp2_with fail
 refine via2 (H := fun wc pc => Ap c.R wg1.heap.size wg1 wc ∧ Rdr c wc i5 d ∧ NAt (From wg1.heap.size) wc b2 pc) (G := ?G3) (fun CONT => ?_) ?_
 rotate_left
 ·
  refine wp_region_any (by kernel_rfl) ?_; change wpAny _ _ _ _ _ _ _ (World.drew _); refine wt 0 (nPtr p0) ?_; refine wt 1 (nPtr p0) ?_; refine wt 2 (nPtr p0) ?_; refine wt 3 (.pointer (some ⟨p0, 3, none⟩)) ?_
  refine wt 5 (.string s) ?_; refine wt 6 (rPtr c) ?_; refine wr2 4 7 (fun K hK => ?_) fun K hK => ?_
  ·
   go_simp; refine hK _ _ ?_; clear hK K; refine wr1 7 fun K hK => ?_; go_simp; refine cm HCC.out ?_; intro e wc hp; obtain ⟨⟨vc, rfl, hnc⟩, hrd, ha⟩ := hp; obtain ⟨pc, rfl, hmc⟩ := hnc.nv
   have ha0 := ((Ap.refl c.R wg1.heap.size wg1).drew).next ha; have HY : Hid (Ap c.R wg1.heap.size wg1 wc ∧ Rdr c wc i5 d ∧ NAt (From wg1.heap.size) wc b2 pc) := ⟨ha0, hrd, hmc⟩
   obtain ⟨gc3, gcf, gcl⟩ := (Open.later HOP.out ha0 HLT.out).cell; have gcl1 : p0 < wc.heap.size + 1 := by omega
   have gcl2 : p0 < wc.heap.size + 1 + 1 := by omega
   clear hrd ha ha0 hnc hmc; refine hK _ _ ?_; clear hK K; refine wr1 8 fun K hK => ?_; go_simp; refine hK _ _ ?_; clear hK K; refine wr1 9 fun K hK => ?_; go_simp
   refine cm (zqw 13 s (.slice (some ⟨wc.heap.size, 0, none⟩) 1 1) (wc.alloc (.cells #[nPtr pc] 22)) ⟨_, _, _, rfl⟩) ?_; rintro e wd0 ⟨rfl, rfl⟩; refine hK _ _ ?_; clear hK K; refine wr1 10 fun K hK => ?_; go_simp
   refine hK _ _ ?_; clear hK K; refine zq7 (listed' := tf 11 4) (by kernel_rfl) rfl ?_; exact CONT wc pc HY.out
  ·
   go_simp; refine cm HCC.out ?_; intro e wc hp; obtain ⟨⟨vc, rfl, hnc⟩, hrd, ha⟩ := hp; obtain ⟨pc, rfl, hmc⟩ := hnc.nv; have ha0 := ((Ap.refl c.R wg1.heap.size wg1).drew).next ha
   have HY : Hid (Ap c.R wg1.heap.size wg1 wc ∧ Rdr c wc i5 d ∧ NAt (From wg1.heap.size) wc b2 pc) := ⟨ha0, hrd, hmc⟩; obtain ⟨gc3, gcf, gcl⟩ := (Open.later HOP.out ha0 HLT.out).cell
   have gcl1 : p0 < wc.heap.size + 1 := by omega
   have gcl2 : p0 < wc.heap.size + 1 + 1 := by omega
   clear hrd ha ha0 hnc hmc; refine hK _ _ ?_; clear hK K; refine wr2 4 8 (fun K hK => ?_) fun K hK => ?_
   ·
    go_simp; refine hK _ _ ?_; clear hK K; refine wr1 8 fun K hK => ?_; go_simp; refine hK _ _ ?_; clear hK K; refine wr1 9 fun K hK => ?_; go_simp
    refine cm (zqw 13 s (.slice (some ⟨wc.heap.size, 0, none⟩) 1 1) (wc.alloc (.cells #[nPtr pc] 22)) ⟨_, _, _, rfl⟩) ?_; rintro e wd0 ⟨rfl, rfl⟩; refine hK _ _ ?_; clear hK K; refine wr1 10 fun K hK => ?_; go_simp
    refine hK _ _ ?_; clear hK K; exact Go.Proofs.YtodmgaikhbmlnaaGreatDoor.wz 11 4 (CONT wc pc HY.out)
   ·
    go_simp; refine hK _ _ ?_; clear hK K; refine wr2 4 9 (fun K hK => ?_) fun K hK => ?_
    ·
     go_simp; refine hK _ _ ?_; clear hK K; refine wr1 9 fun K hK => ?_; go_simp; refine cm (zqw 13 s (.slice (some ⟨wc.heap.size, 0, none⟩) 1 1) (wc.alloc (.cells #[nPtr pc] 22)) ⟨_, _, _, rfl⟩) ?_
     rintro e wd0 ⟨rfl, rfl⟩; refine hK _ _ ?_; clear hK K; refine wr1 10 fun K hK => ?_; go_simp; refine hK _ _ ?_; clear hK K; exact Go.Proofs.YtodmgaikhbmlnaaGreatDoor.wz 11 4 (CONT wc pc HY.out)
    ·
     go_simp; refine cm (zqw 13 s (.slice (some ⟨wc.heap.size, 0, none⟩) 1 1) (wc.alloc (.cells #[nPtr pc] 22)) ⟨_, _, _, rfl⟩) ?_; rintro e wd0 ⟨rfl, rfl⟩; refine hK _ _ ?_; clear hK K
     refine wr2 4 10 (fun K hK => ?_) fun K hK => ?_
     ·
      go_simp; refine hK _ _ ?_; clear hK K; refine wr1 10 fun K hK => ?_; go_simp; refine hK _ _ ?_; clear hK K; exact Go.Proofs.YtodmgaikhbmlnaaGreatDoor.wz 11 4 (CONT wc pc HY.out)
     ·
      go_simp; refine hK _ _ ?_; clear hK K; refine wr1 4 fun K hK => ?_; go_simp; refine hK _ _ ?_; clear hK K; exact Go.Proofs.YtodmgaikhbmlnaaGreatDoor.wz 11 4 (CONT wc pc HY.out)
 intro wc pc hY
 obtain ⟨ha0, hrd, hmc⟩ := hY
 have HAc := qh (HAg1.out.next ha0)
 have HA0c := qh ha0
 have HRc := qh hrd
 have HOc := qh (Open.later HOP.out ha0 HLT.out)
 have HNc := qh hmc
 obtain ⟨gc3, gcf, gcl⟩ := HOc.out.cell
 have gcl1 : p0 < wc.heap.size + 1 := by omega
 have gcl2 : p0 < wc.heap.size + 1 + 1 := by omega
 clear hrd ha0 hmc
 obtain ⟨n1, n2, n3⟩ := made (w := wg1) HRc.out HA0c.out (NAts.cons HNc.out NAts.nil) (by simp [maxLen]) #[nPtr pc] rfl 1 rfl 13 s (wc.heap.size + 1) rfl
 have hbd : Below wc.heap.size wc ((wc.alloc (.cells #[nPtr pc] 22)).alloc (zzk 13 s 0 (.slice (some ⟨wc.heap.size, 0, none⟩) 1 1))) := (qb.alloc qv _).alloc (by simp) _
 obtain ⟨wd, hwd⟩ : ∃ wd, wd = (wc.alloc (.cells #[nPtr pc] 22)).alloc (zzk 13 s 0 (.slice (some ⟨wc.heap.size, 0, none⟩) 1 1)) := ⟨_, rfl⟩
 have hq : (wc.alloc (.cells #[nPtr pc] 22)).heap.size = wc.heap.size + 1 := by simp
 obtain ⟨q, hqq⟩ : ∃ q, q = wc.heap.size + 1 := ⟨_, rfl⟩
 obtain ⟨pq, hpq, hnq⟩ := n1.nv
 have hpe : pq = wc.heap.size + 1 := by simpa [nPtr] using hpq.symm
 subst hpe
 have hws : wd.heap.size = q + 1 := by rw [hwd, hqq]; simp
 rw [← hwd] at hnq n2 n3 hbd
 try rw [hq]
 rw [← hqq] at hnq
 try rw [← hqq]
 try rw [← hwd]
 have HOd := qh (Open.later HOc.out (Ap.of hbd) HLT.out)
 have HAd := qh (HAc.out.next (Ap.of hbd))
 have HRd := qh n2
 have HNd := qh (Open.apart HOP.out HAg1.out.size (NAts.cons hnq NAts.nil))
 obtain ⟨ec3, ecf, ecl⟩ := HOd.out.cell
 clear n1 n2 n3 hbd hnq hpq hwd hqq hq gc3 gcf gcl gcl1 gcl2
 have hlen := NAts.length _ _ HOd.out.kids
 have hown := HOd.out.row
 rw [hlen] at hown
 have HOWN := qh hown
 have hsz := HAd.out.size
 have hkl : t0.kids.length ≤ 3 := by rw [HKL.out]; decide
 clear hown hlen
 refine wr1 11 fun K hK => ?_
 refine step_append_lies _ rfl _ _ 36 rfl w.heap.size 22 i0' (.pointer none) 1 8 Tryz.underlying36 hi0 hz0 hz1 hz2 rfl (by decide) _ _ _ rfl (HOWN.out.alloc _) ⟨q + 1, 0, none⟩ 1 1 [nPtr q] rfl rfl (zq3 wd q _ hws) (zxy q) (by decide) (by unfold maxLen; omega) (by omega) (by simp; omega) (wd.heap.size + 1) (by simp) ?_
 clear hws
 intro g cap w3 hown3 hgr3 hg3 _
 refine hK _ _ ?_
 clear hK K
 have HP1 := qh (push1 HOd.out HNd.out HRd.out HAd.out HLO.out hown3 hgr3 hg3)
 have hp3 : w3.cell? ⟨p0, 3, none⟩ = wd.cell? ⟨p0, 3, none⟩ ∧ w3.frozen? ⟨p0, 3, none⟩ = wd.frozen? ⟨p0, 3, none⟩ := by
  have hbb : w3.heap[p0]? = wd.heap[p0]? := (hgr3.block p0 (by simp; omega) (fun e => HOd.out.own e.symm)).trans (Below.heap_alloc wd _ p0 ecl)
  exact ⟨World.cell?_of_block (w := wd) hbb, World.frozen?_of_block (w := wd) hbb⟩
 obtain ⟨hp3c, hp3f⟩ := hp3
 rw [ec3] at hp3c
 rw [ecf 3] at hp3f
 clear hown3 hgr3 hg3
 refine wt 12 (nPtr p0) ?_
 refine wt 13 (.pointer (some ⟨p0, 3, none⟩)) ?_
 refine wr1 14 fun K hK => ?_
 go_simp
 refine hK _ _ ?_
 clear hK K hp3c hp3f ec3 ecf ecl HOWN
 refine wpAny_done (by kernel_rfl) ?_ _
 go_simp
 obtain ⟨m1, m2, m3⟩ := zzz HP1
 obtain ⟨t0x, ht2⟩ : ∃ tq : Tr, tq = .mk t0.kd t0.tx t0.n (t0.kids ++ [.mk 13 s 0 [b2]]) := ⟨_, rfl⟩
 rw [← ht2] at m1
 have HKLt0x : Hid (t0x.kids.length = t0.kids.length + 1) := by
  show _ = _
  rw [ht2]; simp [Tr.kids]
 have HTt0x := qh ht2
 obtain ⟨pz, uz, psz, hpz, hopz⟩ := m1.opens
 have hpz2 : pz = p0 := by simpa [nPtr] using hpz.symm
 rw [hpz2] at hopz
 obtain ⟨w4, hw4⟩ : ∃ w4, w4 = (w3.setCell ⟨p0, 3, none⟩ (.slice (some ⟨g, 0, none⟩) (t0.kids.length + 1) cap)) := ⟨_, rfl⟩
 rw [← hw4] at hopz m2 m3
 rw [← hw4]
 clear HOP
 have HOP := qh hopz
 have HR4C := qh m2
 have HA4C := qh m3
 clear m1 m2 m3 hopz hpz hw4 hpz2 ht2 HP1 HCC
 have HC := qh (zk0 c zxq w4 i5 d HR4C.out hf (by decide))
 go_wp2_with fail
 refine cm HC.out ?_
 rintro e wz ⟨rfl, hrd, ha⟩
 clear HC
 have HRz := qh hrd
 have HAz := qh (HA4C.out.next ha)
 replace HOP := qh (Open.later HOP.out (ha) HLT.out)
 clear hrd ha
 have HKL2 : Hid (t0x.kids.length = 2) := by
  show _ = _
  rw [HKLt0x.out, HKL.out]
 have HCF := qh (zxk hF hN wz.drew d (i5 + 1) _ rfl (by rw [h6]; nofun) HRz.out.drew)
 rw [h6] at HCF
 obtain ⟨hc3, hcf, hcl⟩ := HOP.out.cell
 obtain ⟨ua, uc, hue⟩ := HOP.out.shape
 subst hue
 go_wp2_with fail
 refine via2 (H := fun wc pc => Ap c.R wz.heap.size wz wc ∧ Rdr c wc i6 d ∧ NAt (From wz.heap.size) wc b3 pc) (G := ?G4) (fun CONT => ?_) ?_
 rotate_left
 ·
  refine wp_region_any (by kernel_rfl) ?_; change wpAny _ _ _ _ _ _ _ (World.drew _); refine wt 0 (nPtr p0) ?_; refine wt 1 (nPtr p0) ?_; refine wt 2 (nPtr p0) ?_; refine wt 3 (.pointer (some ⟨p0, 3, none⟩)) ?_
  refine wt 5 (rPtr c) ?_; refine wr2 4 6 (fun K hK => ?_) fun K hK => ?_
  ·
   go_simp; refine hK _ _ ?_; clear hK K; refine wr1 6 fun K hK => ?_; go_simp; refine cm HCF.out ?_; intro e wc hp; obtain ⟨⟨vc, rfl, hnc⟩, hrd, ha⟩ := hp; obtain ⟨pc, rfl, hmc⟩ := hnc.nv
   have ha0 := ((Ap.refl c.R wz.heap.size wz).drew).next ha; have HY : Hid (Ap c.R wz.heap.size wz wc ∧ Rdr c wc i6 d ∧ NAt (From wz.heap.size) wc b3 pc) := ⟨ha0, hrd, hmc⟩
   obtain ⟨gc3, gcf, gcl⟩ := (Open.later HOP.out ha0 HLT.out).cell; have gcl1 : p0 < wc.heap.size + 1 := by omega
   have gcl2 : p0 < wc.heap.size + 1 + 1 := by omega
   clear hrd ha ha0 hnc hmc; refine hK _ _ ?_; clear hK K; refine wr1 7 fun K hK => ?_; go_simp; refine hK _ _ ?_; clear hK K; refine wr1 8 fun K hK => ?_; go_simp
   refine cm (zqw 14 zzx (.slice (some ⟨wc.heap.size, 0, none⟩) 1 1) (wc.alloc (.cells #[nPtr pc] 22)) ⟨_, _, _, rfl⟩) ?_; rintro e wd0 ⟨rfl, rfl⟩; refine hK _ _ ?_; clear hK K; refine wr1 9 fun K hK => ?_; go_simp
   refine hK _ _ ?_; clear hK K; refine zq7 (listed' := tf 10 4) (by kernel_rfl) rfl ?_; exact CONT wc pc HY.out
  ·
   go_simp; refine cm HCF.out ?_; intro e wc hp; obtain ⟨⟨vc, rfl, hnc⟩, hrd, ha⟩ := hp; obtain ⟨pc, rfl, hmc⟩ := hnc.nv; have ha0 := ((Ap.refl c.R wz.heap.size wz).drew).next ha
   have HY : Hid (Ap c.R wz.heap.size wz wc ∧ Rdr c wc i6 d ∧ NAt (From wz.heap.size) wc b3 pc) := ⟨ha0, hrd, hmc⟩; obtain ⟨gc3, gcf, gcl⟩ := (Open.later HOP.out ha0 HLT.out).cell
   have gcl1 : p0 < wc.heap.size + 1 := by omega
   have gcl2 : p0 < wc.heap.size + 1 + 1 := by omega
   clear hrd ha ha0 hnc hmc; refine hK _ _ ?_; clear hK K; refine wr2 4 7 (fun K hK => ?_) fun K hK => ?_
   ·
    go_simp; refine hK _ _ ?_; clear hK K; refine wr1 7 fun K hK => ?_; go_simp; refine hK _ _ ?_; clear hK K; refine wr1 8 fun K hK => ?_; go_simp
    refine cm (zqw 14 zzx (.slice (some ⟨wc.heap.size, 0, none⟩) 1 1) (wc.alloc (.cells #[nPtr pc] 22)) ⟨_, _, _, rfl⟩) ?_; rintro e wd0 ⟨rfl, rfl⟩; refine hK _ _ ?_; clear hK K; refine wr1 9 fun K hK => ?_
    go_simp; refine hK _ _ ?_; clear hK K; exact Go.Proofs.YtodmgaikhbmlnaaGreatDoor.wz 10 4 (CONT wc pc HY.out)
   ·
    go_simp; refine hK _ _ ?_; clear hK K; refine wr2 4 8 (fun K hK => ?_) fun K hK => ?_
    ·
     go_simp; refine hK _ _ ?_; clear hK K; refine wr1 8 fun K hK => ?_; go_simp; refine cm (zqw 14 zzx (.slice (some ⟨wc.heap.size, 0, none⟩) 1 1) (wc.alloc (.cells #[nPtr pc] 22)) ⟨_, _, _, rfl⟩) ?_
     rintro e wd0 ⟨rfl, rfl⟩; refine hK _ _ ?_; clear hK K; refine wr1 9 fun K hK => ?_; go_simp; refine hK _ _ ?_; clear hK K; exact Go.Proofs.YtodmgaikhbmlnaaGreatDoor.wz 10 4 (CONT wc pc HY.out)
    ·
     go_simp; refine cm (zqw 14 zzx (.slice (some ⟨wc.heap.size, 0, none⟩) 1 1) (wc.alloc (.cells #[nPtr pc] 22)) ⟨_, _, _, rfl⟩) ?_; rintro e wd0 ⟨rfl, rfl⟩; refine hK _ _ ?_; clear hK K
     refine wr2 4 9 (fun K hK => ?_) fun K hK => ?_
     ·
      go_simp; refine hK _ _ ?_; clear hK K; refine wr1 9 fun K hK => ?_; go_simp; refine hK _ _ ?_; clear hK K; exact Go.Proofs.YtodmgaikhbmlnaaGreatDoor.wz 10 4 (CONT wc pc HY.out)
     ·
      go_simp; refine hK _ _ ?_; clear hK K; refine wr1 4 fun K hK => ?_; go_simp; refine hK _ _ ?_; clear hK K; exact Go.Proofs.YtodmgaikhbmlnaaGreatDoor.wz 10 4 (CONT wc pc HY.out)
 intro wc pc hY
 obtain ⟨ha0, hrd, hmc⟩ := hY
 have HAc := qh (HAz.out.next ha0)
 have HA0c := qh ha0
 have HRc := qh hrd
 have HOc := qh (Open.later HOP.out ha0 HLT.out)
 have HNc := qh hmc
 obtain ⟨gc3, gcf, gcl⟩ := HOc.out.cell
 have gcl1 : p0 < wc.heap.size + 1 := by omega
 have gcl2 : p0 < wc.heap.size + 1 + 1 := by omega
 clear hrd ha0 hmc
 obtain ⟨n1, n2, n3⟩ := made (w := wz) HRc.out HA0c.out (NAts.cons HNc.out NAts.nil) (by simp [maxLen]) #[nPtr pc] rfl 1 rfl 14 zzx (wc.heap.size + 1) rfl
 have hbd : Below wc.heap.size wc ((wc.alloc (.cells #[nPtr pc] 22)).alloc (zzk 14 zzx 0 (.slice (some ⟨wc.heap.size, 0, none⟩) 1 1))) := (qb.alloc qv _).alloc (by simp) _
 obtain ⟨wd, hwd⟩ : ∃ wd, wd = (wc.alloc (.cells #[nPtr pc] 22)).alloc (zzk 14 zzx 0 (.slice (some ⟨wc.heap.size, 0, none⟩) 1 1)) := ⟨_, rfl⟩
 have hq : (wc.alloc (.cells #[nPtr pc] 22)).heap.size = wc.heap.size + 1 := by simp
 obtain ⟨q, hqq⟩ : ∃ q, q = wc.heap.size + 1 := ⟨_, rfl⟩
 obtain ⟨pq, hpq, hnq⟩ := n1.nv
 have hpe : pq = wc.heap.size + 1 := by simpa [nPtr] using hpq.symm
 subst hpe
 have hws : wd.heap.size = q + 1 := by rw [hwd, hqq]; simp
 rw [← hwd] at hnq n2 n3 hbd
 try rw [hq]
 rw [← hqq] at hnq
 try rw [← hqq]
 try rw [← hwd]
 have HOd := qh (Open.later HOc.out (Ap.of hbd) HLT.out)
 have HAd := qh (HAc.out.next (Ap.of hbd))
 have HRd := qh n2
 have HNd := qh (Open.apart HOP.out HAz.out.size (NAts.cons hnq NAts.nil))
 obtain ⟨ec3, ecf, ecl⟩ := HOd.out.cell
 clear n1 n2 n3 hbd hnq hpq hwd hqq hq gc3 gcf gcl gcl1 gcl2
 have hlen := NAts.length _ _ HOd.out.kids
 have hown := HOd.out.row
 rw [hlen] at hown
 have HOWN := qh hown
 have hsz := HAd.out.size
 have hkl : t0x.kids.length ≤ 3 := by rw [HKL2.out]; decide
 clear hown hlen
 refine wr1 10 fun K hK => ?_
 refine step_append_lies _ rfl _ _ 36 rfl w.heap.size 22 i0' (.pointer none) 1 8 Tryz.underlying36 hi0 hz0 hz1 hz2 rfl (by decide) _ _ _ rfl (HOWN.out.alloc _) ⟨q + 1, 0, none⟩ 1 1 [nPtr q] rfl rfl (zq3 wd q _ hws) (zxy q) (by decide) (by unfold maxLen; omega) (by omega) (by simp; omega) (wd.heap.size + 1) (by simp) ?_
 clear hws
 intro g cap w3 hown3 hgr3 hg3 _
 refine hK _ _ ?_
 clear hK K
 have HP1 := qh (push1 HOd.out HNd.out HRd.out HAd.out HLO.out hown3 hgr3 hg3)
 have hp3 : w3.cell? ⟨p0, 3, none⟩ = wd.cell? ⟨p0, 3, none⟩ ∧ w3.frozen? ⟨p0, 3, none⟩ = wd.frozen? ⟨p0, 3, none⟩ := by
  have hbb : w3.heap[p0]? = wd.heap[p0]? := (hgr3.block p0 (by simp; omega) (fun e => HOd.out.own e.symm)).trans (Below.heap_alloc wd _ p0 ecl)
  exact ⟨World.cell?_of_block (w := wd) hbb, World.frozen?_of_block (w := wd) hbb⟩
 obtain ⟨hp3c, hp3f⟩ := hp3
 rw [ec3] at hp3c
 rw [ecf 3] at hp3f
 clear hown3 hgr3 hg3
 refine wt 11 (nPtr p0) ?_
 refine wt 12 (.pointer (some ⟨p0, 3, none⟩)) ?_
 refine wr1 13 fun K hK => ?_
 go_simp
 refine hK _ _ ?_
 clear hK K hp3c hp3f ec3 ecf ecl HOWN
 refine wpAny_done (by kernel_rfl) ?_ _
 go_simp
 obtain ⟨m1, m2, m3⟩ := zzz HP1
 obtain ⟨t0xx, ht2⟩ : ∃ tq : Tr, tq = .mk t0x.kd t0x.tx t0x.n (t0x.kids ++ [.mk 14 zzx 0 [b3]]) := ⟨_, rfl⟩
 rw [← ht2] at m1
 have HKLt0xx : Hid (t0xx.kids.length = t0x.kids.length + 1) := by
  show _ = _
  rw [ht2]; simp [Tr.kids]
 have HTt0xx := qh ht2
 obtain ⟨pz, uz, psz, hpz, hopz⟩ := m1.opens
 have hpz2 : pz = p0 := by simpa [nPtr] using hpz.symm
 rw [hpz2] at hopz
 obtain ⟨w4, hw4⟩ : ∃ w4, w4 = (w3.setCell ⟨p0, 3, none⟩ (.slice (some ⟨g, 0, none⟩) (t0x.kids.length + 1) cap)) := ⟨_, rfl⟩
 rw [← hw4] at hopz m2 m3
 rw [← hw4]
 clear HOP
 have HOP := qh hopz
 have HR4F := qh m2
 have HA4F := qh m3
 clear m1 m2 m3 hopz hpz hw4 hpz2 ht2 HP1 HCF
 obtain ⟨hc3, hcf, hcl⟩ := HOP.out.cell
 obtain ⟨ua, uc, hue⟩ := HOP.out.shape
 subst hue
 have hk2 : t0xx.kids.length = 3 := by rw [HKLt0xx.out, HKLt0x.out, HKL.out]
 rw [hk2] at hc3
 clear hk2
 go_wp2_with fail
 go_ret
 have e0 := zzz HT0
 have e1 := zzz HTt0x
 have e2 := zzz HTt0xx
 have hnv := HOP.out.ev.nv
 rw [e2, e1, e0] at hnv
 exact ppOk rfl hnv HR4F.out HA4F.out
theorem at_bothbad {c : Ctx} {F : Fns} (hF : FC c F) (hN : ∃ k, FNx c.l k F) (w : World) (d i i0 : Nat) (h : Rdr c w i d) (hm : zz0 c.l tTry i = .ok () i0) (b : Tr) (i1 : Nat) (hb : zq2 c.l F d i0 = .ok b i1) (hc : fx c.l i1 = zj8) (i2 : Nat) (h2 : zz0 c.l zxw (i1 + 1) = .ok () i2) (s : ByteArray) (i3 : Nat) (h3 : zjq c.l i2 = .ok s i3) (i4 : Nat) (h4 : zz0 c.l zjy i3 = .ok () i4) (b2 : Tr) (i5 : Nat) (h5 : zq2 c.l F d i4 = .ok b2 i5) (hf : fx c.l i5 = zxq) (er : Int) (p : Nat) (h6 : zq2 c.l F d (i5 + 1) = .bad er p) : Calls Tryz.prog 164 #[rPtr c] w (zk6 c w d (NV w.heap.size) (.bad er p)) := by
 have HLO := qh h.base.size
 obtain ⟨i0', hi0, hz0, hz1, hz2⟩ := info_parts zkw
 have HR0 := qh h
 have HA0 := qh (Ap.refl c.R w.heap.size w)
 have HLT := qh h.rlt
 clear h
 go_enter Tryz.func164, Tryz.ntmps164
 have HC := qh (zz8 c tTry w i d HR0.out (by decide))
 rw [hm] at HC
 go_wp2_with fail
 refine cm HC.out ?_
 intro e wa hp
 obtain ⟨⟨va, rfl, rfl⟩, hrd, ha⟩ := hp
 clear HC
 have HRa := qh hrd
 have HAa := qh (HA0.out.next ha)
 clear hrd ha
 have HC := qh (zxk hF hN wa d i0 _ rfl (by rw [hb]; nofun) HRa.out)
 rw [hb] at HC
 go_wp2_with fail
 refine cm HC.out ?_
 intro e wb hp
 obtain ⟨⟨vb, rfl, hnb⟩, hrd, ha⟩ := hp
 clear HC
 have HRb := qh hrd
 have HAb := qh (HAa.out.next ha)
 obtain ⟨pb, rfl, hmb⟩ := (EV.mono hnb HAa.out.size).nv
 have HNb := qh hmb
 clear hnb hmb
 clear hrd ha
 have HC := qh (zqw 12 zzx (.slice (some ⟨wb.heap.size, 0, none⟩) 1 1) (wb.alloc (.cells #[nPtr pb] 22)) ⟨_, _, _, rfl⟩)
 go_wp2_with fail
 refine cm HC.out ?_
 rintro e wn0 ⟨rfl, rfl⟩
 clear HC
 obtain ⟨m1, m2, m3⟩ := made HRb.out HAb.out (NAts.cons HNb.out NAts.nil) (by simp [maxLen]) #[nPtr pb] rfl 1 rfl 12 zzx (wb.heap.size + 1) rfl
 obtain ⟨t0, ht0⟩ : ∃ t0 : Tr, t0 = .mk 12 zzx 0 [b] := ⟨_, rfl⟩
 rw [← ht0] at m1
 have HKL : Hid (t0.kids.length = 1) := by
  show _ = _
  rw [ht0]; rfl
 have HT0 := qh ht0
 obtain ⟨p0, u0, ps0, hpe, hop⟩ := m1.opens
 have hpe2 : p0 = wb.heap.size + 1 := by simpa [nPtr] using hpe.symm
 rw [hpe2] at hop
 have HOP := qh hop
 have HRn := qh m2
 have HAn := qh m3
 clear m1 m2 m3 hop hpe ht0
 obtain ⟨wn, hwn⟩ : ∃ wn, wn = (wb.alloc (.cells #[nPtr pb] 22)).alloc (zzk 12 zzx 0 (.slice (some ⟨wb.heap.size, 0, none⟩) 1 1)) := ⟨_, rfl⟩
 rw [← hwn] at HOP HRn HAn
 rw [← hpe2] at HOP
 rw [show (wb.alloc (.cells #[nPtr pb] 22)).heap.size = p0 by rw [hpe2]; simp, ← hwn]
 clear hwn hpe2
 have HC := qh (zk0 c zj8 wn i1 d HRn.out hc (by decide))
 go_wp2_with fail
 refine cm HC.out ?_
 rintro e wc ⟨rfl, hrd, ha⟩
 clear HC
 have HRc := qh hrd
 have HAc := qh (HAn.out.next ha)
 replace HOP := qh (Open.later HOP.out (ha) HLT.out)
 clear hrd ha
 have HC := qh (zz8 c zxw wc (i1 + 1) d HRc.out (by decide))
 rw [h2] at HC
 go_wp2_with fail
 refine cm HC.out ?_
 intro e wd hp
 obtain ⟨⟨vd, rfl, rfl⟩, hrd, ha⟩ := hp
 clear HC
 have HRd := qh hrd
 have HAd := qh (HAc.out.next ha)
 replace HOP := qh (Open.later HOP.out (ha) HLT.out)
 clear hrd ha
 have HC := qh (zk4 c wd i2 d HRd.out)
 rw [h3] at HC
 go_wp2_with fail
 refine cm HC.out ?_
 intro e we hp
 obtain ⟨⟨ve, rfl, rfl⟩, hrd, ha⟩ := hp
 clear HC
 have HRe := qh hrd
 have HAe := qh (HAd.out.next ha)
 replace HOP := qh (Open.later HOP.out (ha) HLT.out)
 clear hrd ha
 have HC := qh (zz8 c zjy we i3 d HRe.out (by decide))
 rw [h4] at HC
 go_wp2_with fail
 refine cm HC.out ?_
 intro e wg1 hp
 obtain ⟨⟨vg1, rfl, rfl⟩, hrd, ha⟩ := hp
 clear HC
 have HRg1 := qh hrd
 have HAg1 := qh (HAe.out.next ha)
 replace HOP := qh (Open.later HOP.out (ha) HLT.out)
 clear hrd ha
 have HCC := qh (zxk hF hN wg1.drew d i4 _ rfl (by rw [h5]; nofun) HRg1.out.drew)
 rw [h5] at HCC
 obtain ⟨hc3, hcf, hcl⟩ := HOP.out.cell
 obtain ⟨ua, uc, hue⟩ := HOP.out.shape
 subst hue
 go_wp2_with fail
 refine via2 (H := fun wc pc => Ap c.R wg1.heap.size wg1 wc ∧ Rdr c wc i5 d ∧ NAt (From wg1.heap.size) wc b2 pc) (G := ?G5) (fun CONT => ?_) ?_
 rotate_left
 ·
  refine wp_region_any (by kernel_rfl) ?_; change wpAny _ _ _ _ _ _ _ (World.drew _); refine wt 0 (nPtr p0) ?_; refine wt 1 (nPtr p0) ?_; refine wt 2 (nPtr p0) ?_; refine wt 3 (.pointer (some ⟨p0, 3, none⟩)) ?_
  refine wt 5 (.string s) ?_; refine wt 6 (rPtr c) ?_; refine wr2 4 7 (fun K hK => ?_) fun K hK => ?_
  ·
   go_simp; refine hK _ _ ?_; clear hK K; refine wr1 7 fun K hK => ?_; go_simp; refine cm HCC.out ?_; intro e wc hp; obtain ⟨⟨vc, rfl, hnc⟩, hrd, ha⟩ := hp; obtain ⟨pc, rfl, hmc⟩ := hnc.nv
   have ha0 := ((Ap.refl c.R wg1.heap.size wg1).drew).next ha; have HY : Hid (Ap c.R wg1.heap.size wg1 wc ∧ Rdr c wc i5 d ∧ NAt (From wg1.heap.size) wc b2 pc) := ⟨ha0, hrd, hmc⟩
   obtain ⟨gc3, gcf, gcl⟩ := (Open.later HOP.out ha0 HLT.out).cell; have gcl1 : p0 < wc.heap.size + 1 := by omega
   have gcl2 : p0 < wc.heap.size + 1 + 1 := by omega
   clear hrd ha ha0 hnc hmc; refine hK _ _ ?_; clear hK K; refine wr1 8 fun K hK => ?_; go_simp; refine hK _ _ ?_; clear hK K; refine wr1 9 fun K hK => ?_; go_simp
   refine cm (zqw 13 s (.slice (some ⟨wc.heap.size, 0, none⟩) 1 1) (wc.alloc (.cells #[nPtr pc] 22)) ⟨_, _, _, rfl⟩) ?_; rintro e wd0 ⟨rfl, rfl⟩; refine hK _ _ ?_; clear hK K; refine wr1 10 fun K hK => ?_; go_simp
   refine hK _ _ ?_; clear hK K; refine zq7 (listed' := tf 11 4) (by kernel_rfl) rfl ?_; exact CONT wc pc HY.out
  ·
   go_simp; refine cm HCC.out ?_; intro e wc hp; obtain ⟨⟨vc, rfl, hnc⟩, hrd, ha⟩ := hp; obtain ⟨pc, rfl, hmc⟩ := hnc.nv; have ha0 := ((Ap.refl c.R wg1.heap.size wg1).drew).next ha
   have HY : Hid (Ap c.R wg1.heap.size wg1 wc ∧ Rdr c wc i5 d ∧ NAt (From wg1.heap.size) wc b2 pc) := ⟨ha0, hrd, hmc⟩; obtain ⟨gc3, gcf, gcl⟩ := (Open.later HOP.out ha0 HLT.out).cell
   have gcl1 : p0 < wc.heap.size + 1 := by omega
   have gcl2 : p0 < wc.heap.size + 1 + 1 := by omega
   clear hrd ha ha0 hnc hmc; refine hK _ _ ?_; clear hK K; refine wr2 4 8 (fun K hK => ?_) fun K hK => ?_
   ·
    go_simp; refine hK _ _ ?_; clear hK K; refine wr1 8 fun K hK => ?_; go_simp; refine hK _ _ ?_; clear hK K; refine wr1 9 fun K hK => ?_; go_simp
    refine cm (zqw 13 s (.slice (some ⟨wc.heap.size, 0, none⟩) 1 1) (wc.alloc (.cells #[nPtr pc] 22)) ⟨_, _, _, rfl⟩) ?_; rintro e wd0 ⟨rfl, rfl⟩; refine hK _ _ ?_; clear hK K; refine wr1 10 fun K hK => ?_; go_simp
    refine hK _ _ ?_; clear hK K; exact Go.Proofs.YtodmgaikhbmlnaaGreatDoor.wz 11 4 (CONT wc pc HY.out)
   ·
    go_simp; refine hK _ _ ?_; clear hK K; refine wr2 4 9 (fun K hK => ?_) fun K hK => ?_
    ·
     go_simp; refine hK _ _ ?_; clear hK K; refine wr1 9 fun K hK => ?_; go_simp; refine cm (zqw 13 s (.slice (some ⟨wc.heap.size, 0, none⟩) 1 1) (wc.alloc (.cells #[nPtr pc] 22)) ⟨_, _, _, rfl⟩) ?_
     rintro e wd0 ⟨rfl, rfl⟩; refine hK _ _ ?_; clear hK K; refine wr1 10 fun K hK => ?_; go_simp; refine hK _ _ ?_; clear hK K; exact Go.Proofs.YtodmgaikhbmlnaaGreatDoor.wz 11 4 (CONT wc pc HY.out)
    ·
     go_simp; refine cm (zqw 13 s (.slice (some ⟨wc.heap.size, 0, none⟩) 1 1) (wc.alloc (.cells #[nPtr pc] 22)) ⟨_, _, _, rfl⟩) ?_; rintro e wd0 ⟨rfl, rfl⟩; refine hK _ _ ?_; clear hK K
     refine wr2 4 10 (fun K hK => ?_) fun K hK => ?_
     ·
      go_simp; refine hK _ _ ?_; clear hK K; refine wr1 10 fun K hK => ?_; go_simp; refine hK _ _ ?_; clear hK K; exact Go.Proofs.YtodmgaikhbmlnaaGreatDoor.wz 11 4 (CONT wc pc HY.out)
     ·
      go_simp; refine hK _ _ ?_; clear hK K; refine wr1 4 fun K hK => ?_; go_simp; refine hK _ _ ?_; clear hK K; exact Go.Proofs.YtodmgaikhbmlnaaGreatDoor.wz 11 4 (CONT wc pc HY.out)
 intro wc pc hY
 obtain ⟨ha0, hrd, hmc⟩ := hY
 have HAc := qh (HAg1.out.next ha0)
 have HA0c := qh ha0
 have HRc := qh hrd
 have HOc := qh (Open.later HOP.out ha0 HLT.out)
 have HNc := qh hmc
 obtain ⟨gc3, gcf, gcl⟩ := HOc.out.cell
 have gcl1 : p0 < wc.heap.size + 1 := by omega
 have gcl2 : p0 < wc.heap.size + 1 + 1 := by omega
 clear hrd ha0 hmc
 obtain ⟨n1, n2, n3⟩ := made (w := wg1) HRc.out HA0c.out (NAts.cons HNc.out NAts.nil) (by simp [maxLen]) #[nPtr pc] rfl 1 rfl 13 s (wc.heap.size + 1) rfl
 have hbd : Below wc.heap.size wc ((wc.alloc (.cells #[nPtr pc] 22)).alloc (zzk 13 s 0 (.slice (some ⟨wc.heap.size, 0, none⟩) 1 1))) := (qb.alloc qv _).alloc (by simp) _
 obtain ⟨wd, hwd⟩ : ∃ wd, wd = (wc.alloc (.cells #[nPtr pc] 22)).alloc (zzk 13 s 0 (.slice (some ⟨wc.heap.size, 0, none⟩) 1 1)) := ⟨_, rfl⟩
 have hq : (wc.alloc (.cells #[nPtr pc] 22)).heap.size = wc.heap.size + 1 := by simp
 obtain ⟨q, hqq⟩ : ∃ q, q = wc.heap.size + 1 := ⟨_, rfl⟩
 obtain ⟨pq, hpq, hnq⟩ := n1.nv
 have hpe : pq = wc.heap.size + 1 := by simpa [nPtr] using hpq.symm
 subst hpe
 have hws : wd.heap.size = q + 1 := by rw [hwd, hqq]; simp
 rw [← hwd] at hnq n2 n3 hbd
 try rw [hq]
 rw [← hqq] at hnq
 try rw [← hqq]
 try rw [← hwd]
 have HOd := qh (Open.later HOc.out (Ap.of hbd) HLT.out)
 have HAd := qh (HAc.out.next (Ap.of hbd))
 have HRd := qh n2
 have HNd := qh (Open.apart HOP.out HAg1.out.size (NAts.cons hnq NAts.nil))
 obtain ⟨ec3, ecf, ecl⟩ := HOd.out.cell
 clear n1 n2 n3 hbd hnq hpq hwd hqq hq gc3 gcf gcl gcl1 gcl2
 have hlen := NAts.length _ _ HOd.out.kids
 have hown := HOd.out.row
 rw [hlen] at hown
 have HOWN := qh hown
 have hsz := HAd.out.size
 have hkl : t0.kids.length ≤ 3 := by rw [HKL.out]; decide
 clear hown hlen
 refine wr1 11 fun K hK => ?_
 refine step_append_lies _ rfl _ _ 36 rfl w.heap.size 22 i0' (.pointer none) 1 8 Tryz.underlying36 hi0 hz0 hz1 hz2 rfl (by decide) _ _ _ rfl (HOWN.out.alloc _) ⟨q + 1, 0, none⟩ 1 1 [nPtr q] rfl rfl (zq3 wd q _ hws) (zxy q) (by decide) (by unfold maxLen; omega) (by omega) (by simp; omega) (wd.heap.size + 1) (by simp) ?_
 clear hws
 intro g cap w3 hown3 hgr3 hg3 _
 refine hK _ _ ?_
 clear hK K
 have HP1 := qh (push1 HOd.out HNd.out HRd.out HAd.out HLO.out hown3 hgr3 hg3)
 have hp3 : w3.cell? ⟨p0, 3, none⟩ = wd.cell? ⟨p0, 3, none⟩ ∧ w3.frozen? ⟨p0, 3, none⟩ = wd.frozen? ⟨p0, 3, none⟩ := by
  have hbb : w3.heap[p0]? = wd.heap[p0]? := (hgr3.block p0 (by simp; omega) (fun e => HOd.out.own e.symm)).trans (Below.heap_alloc wd _ p0 ecl)
  exact ⟨World.cell?_of_block (w := wd) hbb, World.frozen?_of_block (w := wd) hbb⟩
 obtain ⟨hp3c, hp3f⟩ := hp3
 rw [ec3] at hp3c
 rw [ecf 3] at hp3f
 clear hown3 hgr3 hg3
 refine wt 12 (nPtr p0) ?_
 refine wt 13 (.pointer (some ⟨p0, 3, none⟩)) ?_
 refine wr1 14 fun K hK => ?_
 go_simp
 refine hK _ _ ?_
 clear hK K hp3c hp3f ec3 ecf ecl HOWN
 refine wpAny_done (by kernel_rfl) ?_ _
 go_simp
 obtain ⟨m1, m2, m3⟩ := zzz HP1
 obtain ⟨t0x, ht2⟩ : ∃ tq : Tr, tq = .mk t0.kd t0.tx t0.n (t0.kids ++ [.mk 13 s 0 [b2]]) := ⟨_, rfl⟩
 rw [← ht2] at m1
 have HKLt0x : Hid (t0x.kids.length = t0.kids.length + 1) := by
  show _ = _
  rw [ht2]; simp [Tr.kids]
 have HTt0x := qh ht2
 obtain ⟨pz, uz, psz, hpz, hopz⟩ := m1.opens
 have hpz2 : pz = p0 := by simpa [nPtr] using hpz.symm
 rw [hpz2] at hopz
 obtain ⟨w4, hw4⟩ : ∃ w4, w4 = (w3.setCell ⟨p0, 3, none⟩ (.slice (some ⟨g, 0, none⟩) (t0.kids.length + 1) cap)) := ⟨_, rfl⟩
 rw [← hw4] at hopz m2 m3
 rw [← hw4]
 clear HOP
 have HOP := qh hopz
 have HR4C := qh m2
 have HA4C := qh m3
 clear m1 m2 m3 hopz hpz hw4 hpz2 ht2 HP1 HCC
 have HC := qh (zk0 c zxq w4 i5 d HR4C.out hf (by decide))
 go_wp2_with fail
 refine cm HC.out ?_
 rintro e wz ⟨rfl, hrd, ha⟩
 clear HC
 have HRz := qh hrd
 have HAz := qh (HA4C.out.next ha)
 replace HOP := qh (Open.later HOP.out (ha) HLT.out)
 clear hrd ha
 have HKL2 : Hid (t0x.kids.length = 2) := by
  show _ = _
  rw [HKLt0x.out, HKL.out]
 have HCF := qh (zxk hF hN wz.drew d (i5 + 1) _ rfl (by rw [h6]; nofun) HRz.out.drew)
 rw [h6] at HCF
 obtain ⟨hc3, hcf, hcl⟩ := HOP.out.cell
 obtain ⟨ua, uc, hue⟩ := HOP.out.shape
 subst hue
 go_wp2_with fail
 refine wp_region_any (by kernel_rfl) ?_
 change wpAny _ _ _ _ _ _ _ (World.drew _)
 refine wt 0 (nPtr p0) ?_
 refine wt 1 (nPtr p0) ?_
 refine wt 2 (nPtr p0) ?_
 refine wt 3 (.pointer (some ⟨p0, 3, none⟩)) ?_
 refine wt 5 (rPtr c) ?_
 refine wr2 4 6 (fun K hK => ?_) fun K hK => ?_
 ·
  go_simp; refine hK _ _ ?_; clear hK K; refine wr1 6 fun K hK => ?_; go_simp; refine cm HCF.out ?_; intro e wc hp; obtain ⟨rfl, ha⟩ := hp; exact ⟨rfl, zq9 rfl (HAz.out.drew.next ha)⟩
 ·
  go_simp; refine cm HCF.out ?_; intro e wc hp; obtain ⟨rfl, ha⟩ := hp; exact ⟨rfl, zq9 rfl (HAz.out.drew.next ha)⟩
theorem zq8 {α β : Type} {r : PR α} {f : α → Nat → PR β} {y : β} {j : Nat} (h : r.bind f = .ok y j) : ∃ x i, r = .ok x i ∧ f x i = .ok y j := by
 cases r with
 | ok x i => exact ⟨x, i, rfl, h⟩
 | bad er p => cases h
 | out => cases h
theorem hd_ne {s : ByteArray} : zvj s ≠ 15 := by
 unfold zvj zx1
 cases hf : hds.find? (fun e => decide (s = e.1)) with
 | none => decide
 | some e =>
  have hm := List.mem_of_find?_eq_some hf; simp only [hds, List.mem_cons, List.not_mem_nil, or_false] at hm
  rcases hm with rfl | rfl | rfl | rfl | rfl | rfl | rfl | rfl <;> decide
theorem funcTail_kd {l : List Tk} {F : Fns} {kd : Int} {s : ByteArray} {d i j : Nat} {t : Tr} (h : zw3 l F kd s d i = .ok t j) : t.kd = kd := by
 unfold zw3 at h
 obtain ⟨_, _, _, h⟩ := zq8 h
 obtain ⟨_, _, _, h⟩ := zq8 h
 cases h; rfl
theorem part_kd {l : List Tk} {F : Fns} {d q i j : Nat} {t : Tr} (h : partP l F d q i = .ok t j) : t.kd ≠ 15 := by
 unfold partP at h
 split at h
 ·
  unfold zgq at h; obtain ⟨_, _, _, h⟩ := zq8 h
  split at h
  ·
   cases h
  ·
   split at h
   ·
    obtain ⟨_, _, _, h⟩ := zq8 h; obtain ⟨_, _, _, h⟩ := zq8 h
    cases h; exact hd_ne
   ·
    obtain ⟨_, _, _, h⟩ := zq8 h
    cases h; exact hd_ne
 ·
  unfold funcP at h; obtain ⟨_, _, _, h⟩ := zq8 h; obtain ⟨_, _, _, h⟩ := zq8 h; rw [funcTail_kd h]; decide
 ·
  unfold zq2 at h; obtain ⟨_, _, _, h⟩ := zq8 h; obtain ⟨_, _, _, h⟩ := zq8 h; cases h
  show (6 : Int) ≠ 15
  decide
 ·
  obtain ⟨_, _, _, h⟩ := zq8 h
  cases h; decide
 ·
  unfold zy5 at h; obtain ⟨_, _, _, h⟩ := zq8 h; obtain ⟨_, _, _, h⟩ := zq8 h
  split at h
  ·
   obtain ⟨_, _, _, h⟩ := zq8 h
   cases h; exact hd_ne
  ·
   cases h; exact hd_ne
 ·
  unfold zv3 at h; obtain ⟨_, _, _, h⟩ := zq8 h; obtain ⟨_, _, _, h⟩ := zq8 h
  cases h; exact hd_ne
 ·
  unfold zyx at h
  split at h
  ·
   obtain ⟨_, _, _, h⟩ := zq8 h; obtain ⟨_, _, _, h⟩ := zq8 h
   cases h; exact hd_ne
  ·
   obtain ⟨_, _, _, h⟩ := zq8 h
   cases h; exact hd_ne
 ·
  unfold zw4 at h; obtain ⟨_, _, _, h⟩ := zq8 h; obtain ⟨_, _, _, h⟩ := zq8 h; obtain ⟨_, _, _, h⟩ := zq8 h; obtain ⟨_, _, _, h⟩ := zq8 h
  split at h
  ·
   cases h
  ·
   cases h
   show (12 : Int) ≠ 15
   decide
theorem fns_ok (l : List Tk) : ∀ k, FOk (fns l k) := by
 intro k
 cases k with
 | zero => intro d i t j h; cases h
 | succ k =>
  intro d i t j h h15; have h' : zvw l (fns l k) d i = .ok t j := h; unfold zvw at h'
  split at h'
  ·
   exact absurd h15 (part_kd h')
  ·
   unfold zp4 at h'; obtain ⟨v, _, _, h'⟩ := zq8 h'; obtain ⟨_, _, _, h'⟩ := zq8 h'
   cases h'
   exact ⟨v, [], rfl⟩
theorem attempt_any {c : Ctx} {F : Fns} (hF : FC c F) (hN : ∃ k, FNx c.l k F) : Does c 164 NV (zw4 c.l F) := by
 intro w d i r hs ho h
 unfold zw4 at hs
 cases hm : zz0 c.l tTry i with
 | out => rw [hm] at hs; exact absurd hs.symm ho
 | bad er p => rw [hm, zz6] at hs; subst hs; exact at_m w d i h er p hm
 | ok x i0 =>
  rw [hm, zzv] at hs
  cases hb : zq2 c.l F d i0 with
  | out => rw [hb] at hs; exact absurd hs.symm ho
  | bad er p => rw [hb, zz6] at hs; subst hs; exact at_b hF hN w d i i0 h hm er p hb
  | ok b i1 =>
   rw [hb, zzv] at hs; unfold zy6 at hs
   by_cases hc : fx c.l i1 = zj8
   ·
    rw [if_pos hc, zyv] at hs
    cases h2 : zz0 c.l zxw (i1 + 1) with
    | out => rw [h2] at hs; exact absurd hs.symm ho
    | bad er p => rw [h2, zz6] at hs; subst hs; exact at_c1 hF hN w d i i0 h hm b i1 hb hc er p h2
    | ok x2 i2 =>
     rw [h2, zzv, zyv] at hs
     cases h3 : zjq c.l i2 with
     | out => rw [h3] at hs; exact absurd hs.symm ho
     | bad er p => rw [h3, zz6] at hs; subst hs; exact at_c2 hF hN w d i i0 h hm b i1 hb hc i2 h2 er p h3
     | ok s i3 =>
      rw [h3, zzv, zyv] at hs
      cases h4 : zz0 c.l zjy i3 with
      | out => rw [h4] at hs; exact absurd hs.symm ho
      | bad er p => rw [h4, zz6] at hs; subst hs; exact at_c3 hF hN w d i i0 h hm b i1 hb hc i2 h2 s i3 h3 er p h4
      | ok x4 i4 =>
       rw [h4, zzv, zyv] at hs
       cases h5 : zq2 c.l F d i4 with
       | out => rw [h5] at hs; exact absurd hs.symm ho
       | bad er p => rw [h5, zz6] at hs; subst hs; exact at_c4 hF hN w d i i0 h hm b i1 hb hc i2 h2 s i3 h3 i4 h4 er p h5
       | ok b2 i5 =>
        rw [h5, zzv, zzv] at hs; unfold zx0 at hs
        by_cases hf : fx c.l i5 = zxq
        ·
         rw [if_pos hf, zyv] at hs
         cases h6 : zq2 c.l F d (i5 + 1) with
         | out => rw [h6] at hs; exact absurd hs.symm ho
         | bad er p => rw [h6, zz6] at hs; subst hs; exact at_bothbad hF hN w d i i0 h hm b i1 hb hc i2 h2 s i3 h3 i4 h4 b2 i5 h5 hf er p h6
         | ok b3 i6 =>
          rw [h6, zzv, zzv, if_neg (by simp)] at hs; subst hs; exact at_both hF hN w d i i0 h hm b i1 hb hc i2 h2 s i3 h3 i4 h4 b2 i5 h5 hf b3 i6 h6
        ·
         rw [if_neg hf, zzv, if_neg (by simp)] at hs; subst hs; exact at_catch hF hN w d i i0 h hm b i1 hb hc i2 h2 s i3 h3 i4 h4 b2 i5 h5 hf
   ·
    rw [if_neg hc, zzv] at hs; unfold zx0 at hs
    by_cases hf : fx c.l i1 = zxq
    ·
     rw [if_pos hf, zyv] at hs
     cases h6 : zq2 c.l F d (i1 + 1) with
     | out => rw [h6] at hs; exact absurd hs.symm ho
     | bad er p => rw [h6, zz6] at hs; subst hs; exact at_finbad hF hN w d i i0 h hm b i1 hb hc hf er p h6
     | ok b3 i6 =>
      rw [h6, zzv, zzv, if_neg (by simp)] at hs; subst hs; exact at_fin hF hN w d i i0 h hm b i1 hb hc hf b3 i6 h6
    ·
     rw [if_neg hf, zzv, if_pos (by simp)] at hs; subst hs; exact at_none hF hN w d i i0 h hm b i1 hb hc hf
theorem en127 : ∀ args W, (callFunc 157 args).run Tryz.prog W = .ok (.enter 157 args) W := fun _ _ => by kernel_rfl
theorem en128 : ∀ args W, (callFunc 158 args).run Tryz.prog W = .ok (.enter 158 args) W := fun _ _ => by kernel_rfl
theorem en129 : ∀ args W, (callFunc 159 args).run Tryz.prog W = .ok (.enter 159 args) W := fun _ _ => by kernel_rfl
theorem en130 : ∀ args W, (callFunc 160 args).run Tryz.prog W = .ok (.enter 160 args) W := fun _ _ => by kernel_rfl
theorem en131 : ∀ args W, (callFunc 161 args).run Tryz.prog W = .ok (.enter 161 args) W := fun _ _ => by kernel_rfl
theorem en132 : ∀ args W, (callFunc 162 args).run Tryz.prog W = .ok (.enter 162 args) W := fun _ _ => by kernel_rfl
theorem en133 : ∀ args W, (callFunc 163 args).run Tryz.prog W = .ok (.enter 163 args) W := fun _ _ => by kernel_rfl
theorem en134 : ∀ args W, (callFunc 164 args).run Tryz.prog W = .ok (.enter 164 args) W := fun _ _ => by kernel_rfl
theorem st_lt {s : ByteArray} {q : Nat} (h : zx1 stKeys s = some q) : q < 8 := by
 unfold zx1 at h
 cases hf : stKeys.find? (fun e => decide (s = e.1)) with
 | none => rw [hf] at h; cases h
 | some e =>
  rw [hf] at h; have hm := List.mem_of_find?_eq_some hf; simp only [Option.map_some, Option.some.injEq] at h; subst h; simp only [stKeys, List.mem_cons, List.not_mem_nil, or_false] at hm
  rcases hm with rfl | rfl | rfl | rfl | rfl | rfl | rfl | rfl | rfl | rfl | rfl | rfl <;> decide
theorem ppEV {c : Ctx} {w : World} {d : Nat} {r : PR Tr} {e : Ending} {w' : World} (h : zk6 c w d (EV w.heap.size) r e w') : zk6 c w d (NV w.heap.size) r e w' := by
 cases r with
 | ok x j =>
  obtain ⟨⟨v, h1, h2⟩, h3, h4⟩ := h; exact ⟨⟨v, h1, h2.nv⟩, h3, h4⟩
 | bad er p => exact h
 | out => exact h
theorem statement_any {c : Ctx} {F : Fns} (hF : FC c F) (hN : ∃ k, FNx c.l k F) (hK : FOk F) : Does c 170 NV (zvw c.l F) := by
 intro w d i r hs ho h
 unfold zvw at hs
 cases hq : zx1 stKeys (fx c.l i) with
 | none => rw [hq] at hs; exact st_none hF w d i r hs ho hq h
 | some q =>
  rw [hq] at hs; have hlt := st_lt hq; have hk6 : (tkA c.l i).kd ≠ 6 := fun h6 => by
   have : fx c.l i = zzx := by unfold fx; rw [h6]; rfl
   have h0 : zx1 stKeys zzx = none := by decide
   rw [this, h0] at hq; cases hq
  have h8 : q = 0 ∨ q = 1 ∨ q = 2 ∨ q = 3 ∨ q = 4 ∨ q = 5 ∨ q = 6 ∨ q = 7 := by omega
  rcases h8 with rfl | rfl | rfl | rfl | rfl | rfl | rfl | rfl
  ·
   exact zgv 157 en127 w d i r ho 0 hq rfl (fun W hW => decl_any hF W d i r hk6 hs ho hW) h
  ·
   exact zgv 158 en128 w d i r ho 1 hq rfl (fun W hW => func_any hF hN hK W d i r hs ho hW) h
  ·
   exact zgv 159 en129 w d i r ho 2 hq rfl (fun W hW => (zxk hF hN W d i r hs ho hW).mono fun e w' hp => ppEV hp) h
  ·
   exact zgv 160 en130 w d i r ho 3 hq rfl (fun W hW => empty_any W d i r hs ho hW) h
  ·
   exact zgv 161 en131 w d i r ho 4 hq rfl (fun W hW => choice_any hF W d i r hk6 hs ho hW) h
  ·
   exact zgv 162 en132 w d i r ho 5 hq rfl (fun W hW => (zpq hF W d i r hk6 hs ho hW).mono fun e w' hp => ppEV hp) h
  ·
   exact zgv 163 en133 w d i r ho 6 hq rfl (fun W hW => giving_any hF W d i r hk6 hs ho hW) h
  ·
   exact zgv 164 en134 w d i r ho 7 hq rfl (fun W hW => attempt_any hF hN W d i r hs ho hW) h
theorem fns_does (c : Ctx) (hE : Ends c.l) : ∀ k, FC c (fns c.l k) := by
 intro k
 induction k with
 | zero => exact ⟨fun _ _ _ r hs ho _ => absurd hs.symm ho, fun _ _ _ r hs ho _ => absurd hs.symm ho, fun _ _ _ _ _ _ r hs ho _ => absurd hs.symm ho, fun _ _ _ r hs ho _ => absurd hs.symm ho⟩
 | succ k ih =>
  have hN : ∃ q, FNx c.l q (fns c.l k) := ⟨k, fns_nx hE k⟩
  exact ⟨statement_any ih hN (fns_ok c.l k), value_any ih, fun b _ _ w d i r hs ho h => pair_any ih hN b w d i r hs ho h, single_any ih (asked_any ih hN (fns_ok c.l k))⟩
end Go.Proofs.YtodmgaikhbmlnaaGreatDoor
namespace Go.Proofs.YtodmgaikhbmlnaaGreatDoor
theorem zj7 {α β : Type} {r : PR α} {f : α → Nat → PR β} {y : β} {j : Nat} (h : r.bind f = .ok y j) : ∃ x i, r = .ok x i ∧ f x i = .ok y j := by
 cases r with
 | ok x i => exact ⟨x, i, rfl, h⟩
 | bad er p => cases h
 | out => cases h
theorem zqy (kd : Int) (tx : ByteArray) (n : Int) (ks : List Tr) : (Tr.mk kd tx n ks).count = 1 + Tr.counts ks := by rw [Tr.count]
theorem zq0 : Tr.counts [] = 0 := by rw [Tr.counts]
theorem zz9 (t : Tr) (ts : List Tr) : Tr.counts (t :: ts) = t.count + Tr.counts ts := by rw [Tr.counts]
theorem zk2 : ∀ (ts us : List Tr), Tr.counts (ts ++ us) = Tr.counts ts + Tr.counts us
 | [], us => by rw [List.nil_append, zq0, Nat.zero_add]
 | t :: ts, us => by rw [List.cons_append, zz9, zz9, zk2 ts us, Nat.add_assoc]
theorem code_count (t : Tr) : (zh0 t).count = t.count := by
 unfold zh0
 split
 ·
  rw [zqy, zqy]
 ·
  rfl
section
variable {l : List Tk}
theorem zww {s : ByteArray} {i j : Nat} {x : Unit} (h : zz0 l s i = .ok x j) : j = i + 1 := by
 unfold zz0 at h
 split at h
 ·
  cases h; rfl
 ·
  cases h
theorem zmy {s : ByteArray} {i j : Nat} (h : zjq l i = .ok s j) : j = i + 1 := by
 unfold zjq at h
 split at h
 ·
  cases h; rfl
 ·
  cases h
def Cb (i : Nat) (r : PR Tr) : Prop := ∀ t j, r = .ok t j → t.count + 3 * i ≤ 3 * j
def Cbs (i : Nat) (r : PR (List Tr)) : Prop := ∀ t j, r = .ok t j → Tr.counts t + 3 * i ≤ 3 * j
theorem zhq {f : Nat → Nat → PR Tr} {d i : Nat} (h : Cb i (f (d + 1) i)) : Cb i (zq4 l f d i) := by
 unfold zq4
 split
 ·
  intro t j e; cases e
 ·
  exact h
theorem listLoop_cb {shut : ByteArray} {begins : Nat → Bool} {part : Nat → PR Tr} (hp : ∀ i, Cb i (part i)) : ∀ k acc i t j, zvk l shut begins part k acc i = .ok t j → Tr.counts t + 3 * i ≤ Tr.counts acc + 3 * j := by
 intro k
 induction k with
 | zero => intro acc i t j h; cases h
 | succ k ih =>
  intro acc i t j h; unfold zvk at h
  split at h
  ·
   cases h
  ·
   obtain ⟨u, i1, h1, h⟩ := zj7 h; have := hp i u i1 h1
   split at h
   ·
    cases h; rw [zk2, zz9, zq0]; omega
   ·
    obtain ⟨_, i2, h2, h⟩ := zj7 h; have h3 := zww h2; have h4 := ih _ _ _ _ h; rw [zk2, zz9, zq0] at h4; omega
theorem list_cb {opn shut : ByteArray} {begins : Nat → Bool} {part : Nat → PR Tr} (hp : ∀ i, Cb i (part i)) {k i j : Nat} {t : List Tr} (h : znz l opn shut begins part k i = .ok t j) : Tr.counts t + 3 * i + 3 ≤ 3 * j := by
 unfold znz at h
 obtain ⟨_, i1, h1, h⟩ := zj7 h
 have h2 := zww h1
 split at h
 ·
  cases h; rw [zq0]; omega
 ·
  have := listLoop_cb hp _ _ _ _ _ h; rw [zq0] at this; omega
structure FCb (F : Fns) : Prop where
 st : ∀ d i, Cb i (F.st d i)
 vl : ∀ d i, Cb i (F.vl d i)
 pr : ∀ b d i, Cb i (F.pr b d i)
 sg : ∀ d i, Cb i (F.sg d i)
variable {F : Fns} (hF : FCb F)
include hF
theorem blockLoop_cb {d : Nat} : ∀ k acc i t j, zx7 l F d k acc i = .ok t j → Tr.counts t + 3 * i + 3 ≤ Tr.counts acc + 3 * j := by
 intro k
 induction k with
 | zero => intro acc i t j h; cases h
 | succ k ih =>
  intro acc i t j h; unfold zx7 at h
  split at h
  ·
   cases h; omega
  ·
   obtain ⟨u, i1, h1, h⟩ := zj7 h; have h2 := zhq (l := l) (hF.st _ _) u i1 h1; have h4 := ih _ _ _ _ h; rw [zk2, zz9, zq0] at h4; omega
theorem znv {d i j : Nat} {t : Tr} (h : zq2 l F d i = .ok t j) : t.count + 3 * i + 5 ≤ 3 * j := by
 unfold zq2 at h
 obtain ⟨_, i1, h1, h⟩ := zj7 h
 obtain ⟨ts, i2, h2, h⟩ := zj7 h
 cases h
 have h3 := zww h1
 have h4 := blockLoop_cb hF _ _ _ _ _ h2
 rw [zq0] at h4
 rw [zqy]; omega
omit hF in
theorem param_cb (i : Nat) : Cb i (zbz l i) := by
 intro t j h
 unfold zbz at h
 obtain ⟨_, i1, h1, h⟩ := zj7 h
 cases h
 have := zmy h1
 rw [zqy, zq0]; omega
omit hF in
theorem params_cb {i j : Nat} {t : Tr} (h : zy1 l F i = .ok t j) : t.count + 3 * i + 2 ≤ 3 * j := by
 unfold zy1 at h
 obtain ⟨ts, i1, h1, h⟩ := zj7 h
 cases h
 have := list_cb param_cb h1
 rw [zqy]; omega
theorem arg_cb (d i : Nat) : Cb i (argP l F d i) := zhq (hF.vl _ _)
theorem prop_cb (d i : Nat) : Cb i (zf2 l F d i) := by
 intro t j h
 unfold zf2 at h
 obtain ⟨_, i1, h1, h⟩ := zj7 h
 obtain ⟨_, i2, h2, h⟩ := zj7 h
 obtain ⟨u, i3, h3, h⟩ := zj7 h
 cases h
 have e1 := zmy h1
 have e2 := zww h2
 have e3 := zhq (l := l) (hF.vl _ _) u _ h3
 rw [zqy, zz9, zq0]; omega
theorem inPar_cb (d i : Nat) : Cb i (zv8 l F d i) := by
 intro t j h
 unfold zv8 at h
 obtain ⟨_, i1, h1, h⟩ := zj7 h
 obtain ⟨u, i2, h2, h⟩ := zj7 h
 obtain ⟨_, i3, h3, h⟩ := zj7 h
 cases h
 have e1 := zww h1
 have e2 := zhq (l := l) (hF.vl _ _) _ _ h2
 have e3 := zww h3
 omega
theorem object_cb (d i : Nat) : Cb i (zf3 l F d i) := by
 intro t j h
 unfold zf3 at h
 obtain ⟨ts, i1, h1, h⟩ := zj7 h
 cases h
 have := list_cb (prop_cb hF d) h1
 rw [zqy]; omega
theorem tail_cb {kd : Int} {s : ByteArray} {d i j : Nat} {t : Tr} (h : zw3 l F kd s d i = .ok t j) : t.count + 3 * i ≤ 3 * j := by
 unfold zw3 at h
 obtain ⟨ps, i1, h1, h⟩ := zj7 h
 obtain ⟨b, i2, h2, h⟩ := zj7 h
 cases h
 have e1 := params_cb h1
 have e2 := znv hF h2
 rw [zqy, zz9, zz9, zq0, code_count]; omega
theorem lambda_cb (d i : Nat) : Cb i (zf5 l F d i) := by
 intro t j h
 unfold zf5 at h
 obtain ⟨_, i1, h1, h⟩ := zj7 h
 have e1 := zww h1
 split at h
 ·
  obtain ⟨_, i2, h2, h⟩ := zj7 h; have e2 := zmy h2; have := tail_cb hF h; omega
 ·
  have := tail_cb hF h; omega
theorem func_cb (d i : Nat) : Cb i (funcP l F d i) := by
 intro t j h
 unfold funcP at h
 obtain ⟨_, i1, h1, h⟩ := zj7 h
 obtain ⟨_, i2, h2, h⟩ := zj7 h
 have e1 := zww h1
 have e2 := zmy h2
 have := tail_cb hF h
 omega
theorem alone_cb (d i : Nat) : Cb i (zbq l F d i) := by
 unfold zbq
 split
 ·
  exact inPar_cb hF d i
 ·
  exact object_cb hF d i
 ·
  exact lambda_cb hF d i
 ·
  split
  ·
   intro t j h; cases h; rw [zqy, zq0]; omega
  ·
   split
   ·
    intro t j h; cases h; rw [zqy, zq0]; omega
   ·
    split
    ·
     intro t j h; cases h; rw [zqy, zq0]; omega
    ·
     split
     ·
      intro t j h; cases h; rw [zqy, zq0]; omega
     ·
      intro t j h; cases h
theorem askedLoop_cb {d : Nat} : ∀ k u i t j, zwy l F d k u i = .ok t j → t.count + 3 * i ≤ u.count + 3 * j := by
 intro k
 induction k with
 | zero => intro u i t j h; cases h
 | succ k ih =>
  intro u i t j h; unfold zwy at h
  split at h
  ·
   obtain ⟨s, i1, h1, h⟩ := zj7 h; have e1 := zmy h1; have e2 := ih _ _ _ _ h; rw [zqy, zz9, zq0] at e2; omega
  ·
   split at h
   ·
    obtain ⟨ts, i1, h1, h⟩ := zj7 h; have e1 := list_cb (arg_cb hF d) h1; have e2 := ih _ _ _ _ h; rw [zqy, zz9] at e2; omega
   ·
    cases h; omega
theorem asked_cb (d i : Nat) : Cb i (zfz l F d i) := by
 intro t j h
 unfold zfz at h
 obtain ⟨u, i1, h1, h⟩ := zj7 h
 have e1 := alone_cb hF d i u i1 h1
 have e2 := askedLoop_cb hF _ _ _ _ _ h
 omega
theorem single_cb (d i : Nat) : Cb i (zfk l F d i) := by
 unfold zfk
 split
 ·
  intro t j h; obtain ⟨u, i1, h1, h⟩ := zj7 h; cases h; have := zhq (l := l) (hF.sg _ _) u _ h1; rw [zqy, zz9, zq0]; omega
 ·
  exact asked_cb hF d i
theorem pairLoop_cb {b : Int} {d : Nat} : ∀ k u i t j, zvq l F b d k u i = .ok t j → t.count + 3 * i ≤ u.count + 3 * j := by
 intro k
 induction k with
 | zero => intro u i t j h; cases h
 | succ k ih =>
  intro u i t j h; unfold zvq at h
  split at h
  ·
   cases h; omega
  ·
   split at h
   ·
    cases h; omega
   ·
    obtain ⟨v, i1, h1, h⟩ := zj7 h; have e1 := hF.pr _ _ _ v i1 h1; have e2 := ih _ _ _ _ h; rw [zqy, zz9, zz9, zq0] at e2; omega
theorem pair_cb (b : Int) (d i : Nat) : Cb i (pairP l F b d i) := by
 intro t j h
 unfold pairP at h
 obtain ⟨u, i1, h1, h⟩ := zj7 h
 have e1 := hF.sg _ _ u i1 h1
 have e2 := pairLoop_cb hF _ _ _ _ _ h
 omega
theorem value_cb (d i : Nat) : Cb i (zdv l F d i) := by
 intro t j h
 unfold zdv at h
 obtain ⟨u, i1, h1, h⟩ := zj7 h
 have e1 := hF.pr _ _ _ u i1 h1
 split at h
 ·
  split at h
  ·
   obtain ⟨v, i2, h2, h⟩ := zj7 h; cases h; have e2 := zhq (l := l) (hF.vl _ _) v _ h2; rw [zqy, zz9, zz9, zq0]; omega
  ·
   cases h
 ·
  cases h; exact e1
theorem part_cb (d q i : Nat) : Cb i (partP l F d q i) := by
 intro t j h
 unfold partP at h
 split at h
 ·
  unfold zgq at h; obtain ⟨s, i1, h1, h⟩ := zj7 h; have e1 := zmy h1
  split at h
  ·
   cases h
  ·
   split at h
   ·
    obtain ⟨v, i2, h2, h⟩ := zj7 h; obtain ⟨_, i3, h3, h⟩ := zj7 h; cases h; have e2 := zhq (l := l) (hF.vl _ _) v _ h2; have e3 := zww h3; rw [zqy, zz9, zq0]; omega
   ·
    obtain ⟨_, i3, h3, h⟩ := zj7 h; cases h; have e3 := zww h3; rw [zqy, zq0]; omega
 ·
  exact func_cb hF d i t j h
 ·
  have := znv hF h; omega
 ·
  obtain ⟨_, i3, h3, h⟩ := zj7 h; cases h; have e3 := zww h3; rw [zqy, zq0]; omega
 ·
  unfold zy5 at h; obtain ⟨v, i1, h1, h⟩ := zj7 h; obtain ⟨s, i2, h2, h⟩ := zj7 h; have e1 := inPar_cb hF d _ v i1 h1; have e2 := zhq (l := l) (hF.st _ _) s _ h2
  split at h
  ·
   obtain ⟨s2, i3, h3, h⟩ := zj7 h; cases h; have e3 := zhq (l := l) (hF.st _ _) s2 _ h3; rw [zqy, zz9, zz9, zz9, zq0]; omega
  ·
   cases h; rw [zqy, zz9, zz9, zq0]; omega
 ·
  unfold zv3 at h; obtain ⟨v, i1, h1, h⟩ := zj7 h; obtain ⟨s, i2, h2, h⟩ := zj7 h; cases h; have e1 := inPar_cb hF d _ v i1 h1; have e2 := zhq (l := l) (hF.st _ _) s _ h2
  rw [zqy, zz9, zz9, zq0]; omega
 ·
  unfold zyx at h
  split at h
  ·
   obtain ⟨v, i1, h1, h⟩ := zj7 h; obtain ⟨_, i2, h2, h⟩ := zj7 h; cases h; have e1 := zhq (l := l) (hF.vl _ _) v _ h1; have e2 := zww h2; rw [zqy, zz9, zq0]; omega
  ·
   obtain ⟨_, i2, h2, h⟩ := zj7 h; cases h; have e2 := zww h2; rw [zqy, zq0]; omega
 ·
  unfold zw4 at h; obtain ⟨_, i0, h0, h⟩ := zj7 h; obtain ⟨b, i1, h1, h⟩ := zj7 h; obtain ⟨c, i2, h2, h⟩ := zj7 h; obtain ⟨f, i3, h3, h⟩ := zj7 h; have e0 := zww h0; have e1 := znv hF h1
  have e2 : Tr.counts c + 3 * i1 ≤ 3 * i2 := by
   unfold zy6 at h2
   split at h2
   ·
    obtain ⟨_, k1, g1, h2⟩ := zj7 h2; obtain ⟨_, k2, g2, h2⟩ := zj7 h2; obtain ⟨_, k3, g3, h2⟩ := zj7 h2; obtain ⟨bb, k4, g4, h2⟩ := zj7 h2; cases h2; have := zww g1; have := zmy g2; have := zww g3
    have := znv hF g4; rw [zz9, zqy, zz9, zq0]; omega
   ·
    cases h2; rw [zq0]; omega
  have e3 : Tr.counts f + 3 * i2 ≤ 3 * i3 := by
   unfold zx0 at h3
   split at h3
   ·
    obtain ⟨bb, k4, g4, h3⟩ := zj7 h3; cases h3; have := znv hF g4; rw [zz9, zqy, zz9, zq0]; omega
   ·
    cases h3; rw [zq0]; omega
  split at h
  ·
   cases h
  ·
   cases h; rw [zqy, zz9, zk2]; omega
theorem statement_cb (d i : Nat) : Cb i (zvw l F d i) := by
 unfold zvw
 split
 ·
  exact part_cb hF d _ i
 ·
  intro t j h; unfold zp4 at h; obtain ⟨v, i1, h1, h⟩ := zj7 h; obtain ⟨_, i2, h2, h⟩ := zj7 h; cases h; have e1 := zhq (l := l) (hF.vl _ _) v _ h1; have e2 := zww h2
  rw [zqy, zz9, zq0]; omega
omit hF in
theorem fns_cb : ∀ k, FCb (fns l k) := by
 intro k
 induction k with
 | zero => exact ⟨fun _ _ _ _ h => by (cases h), fun _ _ _ _ h => by (cases h), fun _ _ _ _ _ h => by (cases h), fun _ _ _ _ h => by (cases h)⟩
 | succ k ih => exact ⟨statement_cb ih, value_cb ih, pair_cb ih, single_cb ih⟩
theorem progLoop_cb : ∀ k acc i t j, zjv l F k acc i = .ok t j → Tr.counts t + 3 * i ≤ Tr.counts acc + 3 * j := by
 intro k
 induction k with
 | zero => intro acc i t j h; cases h
 | succ k ih =>
  intro acc i t j h; unfold zjv at h
  split at h
  ·
   cases h; omega
  ·
   obtain ⟨u, i1, h1, h⟩ := zj7 h; have h2 := zhq (l := l) (hF.st _ _) u i1 h1; have h4 := ih _ _ _ _ h; rw [zk2, zz9, zq0] at h4; omega
theorem prog_cb {t : Tr} {j : Nat} (h : zh5 l F = .ok t j) : t.count ≤ 1 + 3 * j := by
 unfold zh5 at h
 obtain ⟨ts, i1, h1, h⟩ := zj7 h
 cases h
 have := progLoop_cb hF _ _ _ _ _ h1
 rw [zq0] at this
 rw [code_count, zqy]; omega
end
end Go.Proofs.YtodmgaikhbmlnaaGreatDoor
