/-
  try, with catch, or finally, or both.
-/
import Derived.Test.YtoimgcjbcbhclaaGreatDoorRn0
import Derived.Test.YtoimgcjbcbhclaaGreatDoorRn6
import Derived.Test.YtoimgcjbcbhclaaGreatDoorRn10
import Derived.Deep.MidRow
import Derived.Laws.AppendOwnNone
set_option maxRecDepth 100000
set_option maxHeartbeats 16000000
namespace Go.Proofs.YtoimgcjbcbhclaaGreatDoor
open Go.RowKit
theorem zyx {α β γ : Type} (r : PR α) (f : α → Nat → PR β) (g : β → Nat → PR γ) : (r.bind f).bind g = r.bind fun x i => (f x i).bind g := by cases r <;> rfl
theorem at_b {c : Ctx} {F : Fns} (hF : FC c F) (hN : ∃ k, FNx c.l k F) (w : World) (d i i0 : Nat) (h : Rdr c w i d) (hm : zz0 c.l tTry i = .ok () i0) (er : Int) (p : Nat) (hb : zq0 c.l F d i0 = .bad er p) : Calls Tryz.prog 170 #[rPtr c] w (zk3 c w d (NV w.heap.size) (.bad er p)) := by
 have HLO := qh h.base.size
 obtain ⟨i0', hi0, hz0, hz1, hz2⟩ := info_parts zk0
 have HR0 := qh h
 have HA0 := qh (Ap.refl c.R w.heap.size w)
 have HLT := qh h.rlt
 clear h
 go_enter Tryz.func170, Tryz.ntmps170
 have HC := qh (zz7 c tTry w i d HR0.out (by decide))
 rw [hm] at HC
 go_wp2_with fail
 refine cm HC.out ?_
 intro e wa hp
 obtain ⟨⟨va, rfl, rfl⟩, hrd, ha⟩ := hp
 clear HC
 have HRa := qh hrd
 have HAa := qh (HA0.out.next ha)
 clear hrd ha
 have HC := qh (zxx hF hN wa d i0 _ rfl (by rw [hb]; nofun) HRa.out)
 rw [hb] at HC
 go_wp2_with fail
 refine cm HC.out ?_
 intro e w' hp
 obtain ⟨rfl, ha⟩ := hp
 exact ⟨rfl, zq7 rfl (HAa.out.next ha)⟩
theorem at_none {c : Ctx} {F : Fns} (hF : FC c F) (hN : ∃ k, FNx c.l k F) (w : World) (d i i0 : Nat) (h : Rdr c w i d) (hm : zz0 c.l tTry i = .ok () i0) (b : Tr) (i1 : Nat) (hb : zq0 c.l F d i0 = .ok b i1) (hc : fx c.l i1 ≠ zj5) (hf : fx c.l i1 ≠ zxz) : Calls Tryz.prog 170 #[rPtr c] w (zk3 c w d (NV w.heap.size) (.bad 3 (tkA c.l i1).pl)) := by
 have HLO := qh h.base.size
 obtain ⟨i0', hi0, hz0, hz1, hz2⟩ := info_parts zk0
 have HR0 := qh h
 have HA0 := qh (Ap.refl c.R w.heap.size w)
 have HLT := qh h.rlt
 clear h
 go_enter Tryz.func170, Tryz.ntmps170
 have HC := qh (zz7 c tTry w i d HR0.out (by decide))
 rw [hm] at HC
 go_wp2_with fail
 refine cm HC.out ?_
 intro e wa hp
 obtain ⟨⟨va, rfl, rfl⟩, hrd, ha⟩ := hp
 clear HC
 have HRa := qh hrd
 have HAa := qh (HA0.out.next ha)
 clear hrd ha
 have HC := qh (zxx hF hN wa d i0 _ rfl (by rw [hb]; nofun) HRa.out)
 rw [hb] at HC
 go_wp2_with fail
 refine cm HC.out ?_
 intro e wb hp
 obtain ⟨⟨vb, rfl, hnb⟩, hrd, ha⟩ := hp
 clear HC
 have HRb := qh hrd
 have HAb := qh (HAa.out.next ha)
 obtain ⟨pb, rfl, hmb⟩ := (EV.mono hnb HAa.out.size).nv
 have HNb := qh hmb
 clear hnb hmb
 clear hrd ha
 have HC := qh (zqk 12 zzx (.slice (some ⟨wb.heap.size, 0, none⟩) 1 1) (wb.alloc (.cells #[nPtr pb] 22)) ⟨_, _, _, rfl⟩)
 go_wp2_with fail
 refine cm HC.out ?_
 rintro e wn0 ⟨rfl, rfl⟩
 clear HC
 obtain ⟨m1, m2, m3⟩ := made HRb.out HAb.out (NAts.cons HNb.out NAts.nil) (by simp [maxLen]) #[nPtr pb] rfl 1 rfl 12 zzx (wb.heap.size + 1) rfl
 obtain ⟨t0, ht0⟩ : ∃ t0 : Tr, t0 = .mk 12 zzx 0 [b] := ⟨_, rfl⟩
 rw [← ht0] at m1
 have HKL : Hid (t0.kids.length = 1) := by
  show _ = _
  rw [ht0]; rfl
 have HT0 := qh ht0
 obtain ⟨p0, u0, ps0, hpe, hop⟩ := m1.opens
 have hpe2 : p0 = wb.heap.size + 1 := by simpa [nPtr] using hpe.symm
 rw [hpe2] at hop
 have HOP := qh hop
 have HRn := qh m2
 have HAn := qh m3
 clear m1 m2 m3 hop hpe ht0
 obtain ⟨wn, hwn⟩ : ∃ wn, wn = (wb.alloc (.cells #[nPtr pb] 22)).alloc (zzk 12 zzx 0 (.slice (some ⟨wb.heap.size, 0, none⟩) 1 1)) := ⟨_, rfl⟩
 rw [← hwn] at HOP HRn HAn
 rw [← hpe2] at HOP
 rw [show (wb.alloc (.cells #[nPtr pb] 22)).heap.size = p0 by rw [hpe2]; simp, ← hwn]
 clear hwn hpe2
 have HC := qh (zwj c zj5 wn i1 d HRn.out hc)
 go_wp2_with fail
 refine cm HC.out ?_
 rintro e wc ⟨rfl, hb⟩
 clear HC
 have HRc := qh (HRn.out.later hb)
 have HAc := qh (HAn.out.next (Ap.of hb))
 replace HOP := qh (Open.later HOP.out (Ap.of hb) HLT.out)
 clear hb
 have HC := qh (zwj c zxz wc i1 d HRc.out hf)
 go_wp2_with fail
 refine cm HC.out ?_
 rintro e wf ⟨rfl, hb⟩
 clear HC
 have HRf := qh (HRc.out.later hb)
 have HAf := qh (HAc.out.next (Ap.of hb))
 replace HOP := qh (Open.later HOP.out (Ap.of hb) HLT.out)
 clear hb
 obtain ⟨hc3, hcf, hcl⟩ := HOP.out.cell
 obtain ⟨ua, uc, hue⟩ := HOP.out.shape
 subst hue
 rw [HKL.out] at hc3
 have HC := qh (zby c 3 wf i1 d HRf.out)
 go_wp2_with fail
 refine cm HC.out ?_
 rintro e w9 ⟨rfl, hb9⟩
 exact ⟨rfl, zq7 rfl (HAf.out.next (Ap.of hb9))⟩
theorem at_fin {c : Ctx} {F : Fns} (hF : FC c F) (hN : ∃ k, FNx c.l k F) (w : World) (d i i0 : Nat) (h : Rdr c w i d) (hm : zz0 c.l tTry i = .ok () i0) (b : Tr) (i1 : Nat) (hb : zq0 c.l F d i0 = .ok b i1) (hc : fx c.l i1 ≠ zj5) (hf : fx c.l i1 = zxz) (b2 : Tr) (i2 : Nat) (hb2 : zq0 c.l F d (i1 + 1) = .ok b2 i2) : Calls Tryz.prog 170 #[rPtr c] w (zk3 c w d (NV w.heap.size) (.ok (.mk 12 zzx 0 [b, .mk 14 zzx 0 [b2]]) i2)) := by
 have HLO := qh h.base.size
 obtain ⟨i0', hi0, hz0, hz1, hz2⟩ := info_parts zk0
 have HR0 := qh h
 have HA0 := qh (Ap.refl c.R w.heap.size w)
 have HLT := qh h.rlt
 clear h
 go_enter Tryz.func170, Tryz.ntmps170
 have HC := qh (zz7 c tTry w i d HR0.out (by decide))
 rw [hm] at HC
 go_wp2_with fail
 refine cm HC.out ?_
 intro e wa hp
 obtain ⟨⟨va, rfl, rfl⟩, hrd, ha⟩ := hp
 clear HC
 have HRa := qh hrd
 have HAa := qh (HA0.out.next ha)
 clear hrd ha
 have HC := qh (zxx hF hN wa d i0 _ rfl (by rw [hb]; nofun) HRa.out)
 rw [hb] at HC
 go_wp2_with fail
 refine cm HC.out ?_
 intro e wb hp
 obtain ⟨⟨vb, rfl, hnb⟩, hrd, ha⟩ := hp
 clear HC
 have HRb := qh hrd
 have HAb := qh (HAa.out.next ha)
 obtain ⟨pb, rfl, hmb⟩ := (EV.mono hnb HAa.out.size).nv
 have HNb := qh hmb
 clear hnb hmb
 clear hrd ha
 have HC := qh (zqk 12 zzx (.slice (some ⟨wb.heap.size, 0, none⟩) 1 1) (wb.alloc (.cells #[nPtr pb] 22)) ⟨_, _, _, rfl⟩)
 go_wp2_with fail
 refine cm HC.out ?_
 rintro e wn0 ⟨rfl, rfl⟩
 clear HC
 obtain ⟨m1, m2, m3⟩ := made HRb.out HAb.out (NAts.cons HNb.out NAts.nil) (by simp [maxLen]) #[nPtr pb] rfl 1 rfl 12 zzx (wb.heap.size + 1) rfl
 obtain ⟨t0, ht0⟩ : ∃ t0 : Tr, t0 = .mk 12 zzx 0 [b] := ⟨_, rfl⟩
 rw [← ht0] at m1
 have HKL : Hid (t0.kids.length = 1) := by
  show _ = _
  rw [ht0]; rfl
 have HT0 := qh ht0
 obtain ⟨p0, u0, ps0, hpe, hop⟩ := m1.opens
 have hpe2 : p0 = wb.heap.size + 1 := by simpa [nPtr] using hpe.symm
 rw [hpe2] at hop
 have HOP := qh hop
 have HRn := qh m2
 have HAn := qh m3
 clear m1 m2 m3 hop hpe ht0
 obtain ⟨wn, hwn⟩ : ∃ wn, wn = (wb.alloc (.cells #[nPtr pb] 22)).alloc (zzk 12 zzx 0 (.slice (some ⟨wb.heap.size, 0, none⟩) 1 1)) := ⟨_, rfl⟩
 rw [← hwn] at HOP HRn HAn
 rw [← hpe2] at HOP
 rw [show (wb.alloc (.cells #[nPtr pb] 22)).heap.size = p0 by rw [hpe2]; simp, ← hwn]
 clear hwn hpe2
 have HC := qh (zwj c zj5 wn i1 d HRn.out hc)
 go_wp2_with fail
 refine cm HC.out ?_
 rintro e wc ⟨rfl, hb⟩
 clear HC
 have HRc := qh (HRn.out.later hb)
 have HAc := qh (HAn.out.next (Ap.of hb))
 replace HOP := qh (Open.later HOP.out (Ap.of hb) HLT.out)
 clear hb
 have HC := qh (zkv c zxz wc i1 d HRc.out hf (by decide))
 go_wp2_with fail
 refine cm HC.out ?_
 rintro e wf ⟨rfl, hrd, ha⟩
 clear HC
 have HRf := qh hrd
 have HAf := qh (HAc.out.next ha)
 replace HOP := qh (Open.later HOP.out (ha) HLT.out)
 clear hrd ha
 have HCF := qh (zxx hF hN wf.drew d (i1 + 1) _ rfl (by rw [hb2]; nofun) HRf.out.drew)
 rw [hb2] at HCF
 obtain ⟨hc3, hcf, hcl⟩ := HOP.out.cell
 obtain ⟨ua, uc, hue⟩ := HOP.out.shape
 subst hue
 go_wp2_with fail
 refine via2 (H := fun wc pc => Ap c.R wf.heap.size wf wc ∧ Rdr c wc i2 d ∧ NAt (From wf.heap.size) wc b2 pc) (G := ?G1) (fun CONT => ?_) ?_
 rotate_left
 ·
  refine wp_region_any (by kernel_rfl) ?_; change wpAny _ _ _ _ _ _ _ (World.drew _); refine wt 0 (nPtr p0) ?_; refine wt 1 (nPtr p0) ?_; refine wt 2 (nPtr p0) ?_; refine wt 3 (.pointer (some ⟨p0, 3, none⟩)) ?_
  refine wt 5 (rPtr c) ?_; refine wr2 4 6 (fun K hK => ?_) fun K hK => ?_
  ·
   go_simp; refine hK _ _ ?_; clear hK K; refine wr1 6 fun K hK => ?_; go_simp; refine cm HCF.out ?_; intro e wc hp; obtain ⟨⟨vc, rfl, hnc⟩, hrd, ha⟩ := hp; obtain ⟨pc, rfl, hmc⟩ := hnc.nv
   have ha0 := ((Ap.refl c.R wf.heap.size wf).drew).next ha; have HY : Hid (Ap c.R wf.heap.size wf wc ∧ Rdr c wc i2 d ∧ NAt (From wf.heap.size) wc b2 pc) := ⟨ha0, hrd, hmc⟩
   obtain ⟨gc3, gcf, gcl⟩ := (Open.later HOP.out ha0 HLT.out).cell; have gcl1 : p0 < wc.heap.size + 1 := by omega
   have gcl2 : p0 < wc.heap.size + 1 + 1 := by omega
   clear hrd ha ha0 hnc hmc; refine hK _ _ ?_; clear hK K; refine wr1 7 fun K hK => ?_; go_simp; refine hK _ _ ?_; clear hK K; refine wr1 8 fun K hK => ?_; go_simp
   refine cm (zqk 14 zzx (.slice (some ⟨wc.heap.size, 0, none⟩) 1 1) (wc.alloc (.cells #[nPtr pc] 22)) ⟨_, _, _, rfl⟩) ?_; rintro e wd0 ⟨rfl, rfl⟩; refine hK _ _ ?_; clear hK K; refine wr1 9 fun K hK => ?_; go_simp
   refine hK _ _ ?_; clear hK K; refine zq9 (listed' := tf 10 4) (by kernel_rfl) rfl ?_; exact CONT wc pc HY.out
  ·
   go_simp; refine cm HCF.out ?_; intro e wc hp; obtain ⟨⟨vc, rfl, hnc⟩, hrd, ha⟩ := hp; obtain ⟨pc, rfl, hmc⟩ := hnc.nv; have ha0 := ((Ap.refl c.R wf.heap.size wf).drew).next ha
   have HY : Hid (Ap c.R wf.heap.size wf wc ∧ Rdr c wc i2 d ∧ NAt (From wf.heap.size) wc b2 pc) := ⟨ha0, hrd, hmc⟩; obtain ⟨gc3, gcf, gcl⟩ := (Open.later HOP.out ha0 HLT.out).cell
   have gcl1 : p0 < wc.heap.size + 1 := by omega
   have gcl2 : p0 < wc.heap.size + 1 + 1 := by omega
   clear hrd ha ha0 hnc hmc; refine hK _ _ ?_; clear hK K; refine wr2 4 7 (fun K hK => ?_) fun K hK => ?_
   ·
    go_simp; refine hK _ _ ?_; clear hK K; refine wr1 7 fun K hK => ?_; go_simp; refine hK _ _ ?_; clear hK K; refine wr1 8 fun K hK => ?_; go_simp
    refine cm (zqk 14 zzx (.slice (some ⟨wc.heap.size, 0, none⟩) 1 1) (wc.alloc (.cells #[nPtr pc] 22)) ⟨_, _, _, rfl⟩) ?_; rintro e wd0 ⟨rfl, rfl⟩; refine hK _ _ ?_; clear hK K; refine wr1 9 fun K hK => ?_
    go_simp; refine hK _ _ ?_; clear hK K; exact Go.Proofs.YtoimgcjbcbhclaaGreatDoor.wz 10 4 (CONT wc pc HY.out)
   ·
    go_simp; refine hK _ _ ?_; clear hK K; refine wr2 4 8 (fun K hK => ?_) fun K hK => ?_
    ·
     go_simp; refine hK _ _ ?_; clear hK K; refine wr1 8 fun K hK => ?_; go_simp; refine cm (zqk 14 zzx (.slice (some ⟨wc.heap.size, 0, none⟩) 1 1) (wc.alloc (.cells #[nPtr pc] 22)) ⟨_, _, _, rfl⟩) ?_
     rintro e wd0 ⟨rfl, rfl⟩; refine hK _ _ ?_; clear hK K; refine wr1 9 fun K hK => ?_; go_simp; refine hK _ _ ?_; clear hK K; exact Go.Proofs.YtoimgcjbcbhclaaGreatDoor.wz 10 4 (CONT wc pc HY.out)
    ·
     go_simp; refine cm (zqk 14 zzx (.slice (some ⟨wc.heap.size, 0, none⟩) 1 1) (wc.alloc (.cells #[nPtr pc] 22)) ⟨_, _, _, rfl⟩) ?_; rintro e wd0 ⟨rfl, rfl⟩; refine hK _ _ ?_; clear hK K
     refine wr2 4 9 (fun K hK => ?_) fun K hK => ?_
     ·
      go_simp; refine hK _ _ ?_; clear hK K; refine wr1 9 fun K hK => ?_; go_simp; refine hK _ _ ?_; clear hK K; exact Go.Proofs.YtoimgcjbcbhclaaGreatDoor.wz 10 4 (CONT wc pc HY.out)
     ·
      go_simp; refine hK _ _ ?_; clear hK K; refine wr1 4 fun K hK => ?_; go_simp; refine hK _ _ ?_; clear hK K; exact Go.Proofs.YtoimgcjbcbhclaaGreatDoor.wz 10 4 (CONT wc pc HY.out)
 intro wc pc hY
 obtain ⟨ha0, hrd, hmc⟩ := hY
 have HAc := qh (HAf.out.next ha0)
 have HA0c := qh ha0
 have HRc := qh hrd
 have HOc := qh (Open.later HOP.out ha0 HLT.out)
 have HNc := qh hmc
 obtain ⟨gc3, gcf, gcl⟩ := HOc.out.cell
 have gcl1 : p0 < wc.heap.size + 1 := by omega
 have gcl2 : p0 < wc.heap.size + 1 + 1 := by omega
 clear hrd ha0 hmc
 obtain ⟨n1, n2, n3⟩ := made (w := wf) HRc.out HA0c.out (NAts.cons HNc.out NAts.nil) (by simp [maxLen]) #[nPtr pc] rfl 1 rfl 14 zzx (wc.heap.size + 1) rfl
 have hbd : Below wc.heap.size wc ((wc.alloc (.cells #[nPtr pc] 22)).alloc (zzk 14 zzx 0 (.slice (some ⟨wc.heap.size, 0, none⟩) 1 1))) := (qb.alloc qv _).alloc (by simp) _
 obtain ⟨wd, hwd⟩ : ∃ wd, wd = (wc.alloc (.cells #[nPtr pc] 22)).alloc (zzk 14 zzx 0 (.slice (some ⟨wc.heap.size, 0, none⟩) 1 1)) := ⟨_, rfl⟩
 have hq : (wc.alloc (.cells #[nPtr pc] 22)).heap.size = wc.heap.size + 1 := by simp
 obtain ⟨q, hqq⟩ : ∃ q, q = wc.heap.size + 1 := ⟨_, rfl⟩
 obtain ⟨pq, hpq, hnq⟩ := n1.nv
 have hpe : pq = wc.heap.size + 1 := by simpa [nPtr] using hpq.symm
 subst hpe
 have hws : wd.heap.size = q + 1 := by rw [hwd, hqq]; simp
 rw [← hwd] at hnq n2 n3 hbd
 try rw [hq]
 rw [← hqq] at hnq
 try rw [← hqq]
 try rw [← hwd]
 have HOd := qh (Open.later HOc.out (Ap.of hbd) HLT.out)
 have HAd := qh (HAc.out.next (Ap.of hbd))
 have HRd := qh n2
 have HNd := qh (Open.apart HOP.out HAf.out.size n3 HLT.out (NAts.cons hnq NAts.nil))
 obtain ⟨ec3, ecf, ecl⟩ := HOd.out.cell
 clear n1 n2 n3 hbd hnq hpq hwd hqq hq gc3 gcf gcl gcl1 gcl2
 have hlen := NAts.length _ _ HOd.out.kids
 have hown := HOd.out.row
 rw [hlen] at hown
 have HOWN := qh hown
 have hsz := HAd.out.size
 have hkl : t0.kids.length ≤ 3 := by rw [HKL.out]; decide
 clear hown hlen
 refine wr1 10 fun K hK => ?_
 refine step_append_lies _ rfl _ _ 46 rfl w.heap.size 22 i0' (.pointer none) 1 8 Tryz.underlying46 hi0 hz0 hz1 hz2 rfl (by decide) _ _ _ rfl (HOWN.out.alloc _) ⟨q + 1, 0, none⟩ 1 1 [nPtr q] rfl rfl (zq1 wd q _ hws) (zxv q) (by decide) (by unfold maxLen; omega) (by omega) (by simp; omega) (wd.heap.size + 1) (by simp) ?_
 clear hws
 intro g cap w3 hown3 hgr3 hg3 _
 refine hK _ _ ?_
 clear hK K
 have HP1 := qh (push1 HOd.out HNd.out HRd.out HAd.out HLO.out hown3 hgr3 hg3)
 have hp3 : w3.cell? ⟨p0, 3, none⟩ = wd.cell? ⟨p0, 3, none⟩ ∧ w3.frozen? ⟨p0, 3, none⟩ = wd.frozen? ⟨p0, 3, none⟩ := by
  have hbb : w3.heap[p0]? = wd.heap[p0]? := (hgr3.block p0 (by simp; omega) (fun e => HOd.out.own e.symm)).trans (Below.heap_alloc wd _ p0 ecl)
  exact ⟨World.cell?_of_block (w := wd) hbb, World.frozen?_of_block (w := wd) hbb⟩
 obtain ⟨hp3c, hp3f⟩ := hp3
 rw [ec3] at hp3c
 rw [ecf 3] at hp3f
 clear hown3 hgr3 hg3
 refine wt 11 (nPtr p0) ?_
 refine wt 12 (.pointer (some ⟨p0, 3, none⟩)) ?_
 refine wr1 13 fun K hK => ?_
 go_simp
 refine hK _ _ ?_
 clear hK K hp3c hp3f ec3 ecf ecl HOWN
 refine wpAny_done (by kernel_rfl) ?_ _
 go_simp
 obtain ⟨m1, m2, m3⟩ := zzq HP1
 obtain ⟨t0x, ht2⟩ : ∃ tq : Tr, tq = .mk t0.kd t0.tx t0.n (t0.kids ++ [.mk 14 zzx 0 [b2]]) := ⟨_, rfl⟩
 rw [← ht2] at m1
 have HKLt0x : Hid (t0x.kids.length = t0.kids.length + 1) := by
  show _ = _
  rw [ht2]; simp [Tr.kids]
 have HTt0x := qh ht2
 obtain ⟨pz, uz, psz, hpz, hopz⟩ := m1.opens
 have hpz2 : pz = p0 := by simpa [nPtr] using hpz.symm
 rw [hpz2] at hopz
 obtain ⟨w4, hw4⟩ : ∃ w4, w4 = (w3.setCell ⟨p0, 3, none⟩ (.slice (some ⟨g, 0, none⟩) (t0.kids.length + 1) cap)) := ⟨_, rfl⟩
 rw [← hw4] at hopz m2 m3
 rw [← hw4]
 clear HOP
 have HOP := qh hopz
 have HR4F := qh m2
 have HA4F := qh m3
 clear m1 m2 m3 hopz hpz hw4 hpz2 ht2 HP1 HCF
 obtain ⟨hc3, hcf, hcl⟩ := HOP.out.cell
 obtain ⟨ua, uc, hue⟩ := HOP.out.shape
 subst hue
 have hk2 : t0x.kids.length = 2 := by rw [HKLt0x.out, HKL.out]
 rw [hk2] at hc3
 clear hk2
 go_wp2_with fail
 go_ret
 have e0 := zzq HT0
 have e1 := zzq HTt0x
 have hnv := HOP.out.ev.nv
 rw [e1, e0] at hnv
 exact ppOk rfl hnv HR4F.out HA4F.out
theorem at_finbad {c : Ctx} {F : Fns} (hF : FC c F) (hN : ∃ k, FNx c.l k F) (w : World) (d i i0 : Nat) (h : Rdr c w i d) (hm : zz0 c.l tTry i = .ok () i0) (b : Tr) (i1 : Nat) (hb : zq0 c.l F d i0 = .ok b i1) (hc : fx c.l i1 ≠ zj5) (hf : fx c.l i1 = zxz) (er : Int) (p : Nat) (hb2 : zq0 c.l F d (i1 + 1) = .bad er p) : Calls Tryz.prog 170 #[rPtr c] w (zk3 c w d (NV w.heap.size) (.bad er p)) := by
 have HLO := qh h.base.size
 obtain ⟨i0', hi0, hz0, hz1, hz2⟩ := info_parts zk0
 have HR0 := qh h
 have HA0 := qh (Ap.refl c.R w.heap.size w)
 have HLT := qh h.rlt
 clear h
 go_enter Tryz.func170, Tryz.ntmps170
 have HC := qh (zz7 c tTry w i d HR0.out (by decide))
 rw [hm] at HC
 go_wp2_with fail
 refine cm HC.out ?_
 intro e wa hp
 obtain ⟨⟨va, rfl, rfl⟩, hrd, ha⟩ := hp
 clear HC
 have HRa := qh hrd
 have HAa := qh (HA0.out.next ha)
 clear hrd ha
 have HC := qh (zxx hF hN wa d i0 _ rfl (by rw [hb]; nofun) HRa.out)
 rw [hb] at HC
 go_wp2_with fail
 refine cm HC.out ?_
 intro e wb hp
 obtain ⟨⟨vb, rfl, hnb⟩, hrd, ha⟩ := hp
 clear HC
 have HRb := qh hrd
 have HAb := qh (HAa.out.next ha)
 obtain ⟨pb, rfl, hmb⟩ := (EV.mono hnb HAa.out.size).nv
 have HNb := qh hmb
 clear hnb hmb
 clear hrd ha
 have HC := qh (zqk 12 zzx (.slice (some ⟨wb.heap.size, 0, none⟩) 1 1) (wb.alloc (.cells #[nPtr pb] 22)) ⟨_, _, _, rfl⟩)
 go_wp2_with fail
 refine cm HC.out ?_
 rintro e wn0 ⟨rfl, rfl⟩
 clear HC
 obtain ⟨m1, m2, m3⟩ := made HRb.out HAb.out (NAts.cons HNb.out NAts.nil) (by simp [maxLen]) #[nPtr pb] rfl 1 rfl 12 zzx (wb.heap.size + 1) rfl
 obtain ⟨t0, ht0⟩ : ∃ t0 : Tr, t0 = .mk 12 zzx 0 [b] := ⟨_, rfl⟩
 rw [← ht0] at m1
 have HKL : Hid (t0.kids.length = 1) := by
  show _ = _
  rw [ht0]; rfl
 have HT0 := qh ht0
 obtain ⟨p0, u0, ps0, hpe, hop⟩ := m1.opens
 have hpe2 : p0 = wb.heap.size + 1 := by simpa [nPtr] using hpe.symm
 rw [hpe2] at hop
 have HOP := qh hop
 have HRn := qh m2
 have HAn := qh m3
 clear m1 m2 m3 hop hpe ht0
 obtain ⟨wn, hwn⟩ : ∃ wn, wn = (wb.alloc (.cells #[nPtr pb] 22)).alloc (zzk 12 zzx 0 (.slice (some ⟨wb.heap.size, 0, none⟩) 1 1)) := ⟨_, rfl⟩
 rw [← hwn] at HOP HRn HAn
 rw [← hpe2] at HOP
 rw [show (wb.alloc (.cells #[nPtr pb] 22)).heap.size = p0 by rw [hpe2]; simp, ← hwn]
 clear hwn hpe2
 have HC := qh (zwj c zj5 wn i1 d HRn.out hc)
 go_wp2_with fail
 refine cm HC.out ?_
 rintro e wc ⟨rfl, hb⟩
 clear HC
 have HRc := qh (HRn.out.later hb)
 have HAc := qh (HAn.out.next (Ap.of hb))
 replace HOP := qh (Open.later HOP.out (Ap.of hb) HLT.out)
 clear hb
 have HC := qh (zkv c zxz wc i1 d HRc.out hf (by decide))
 go_wp2_with fail
 refine cm HC.out ?_
 rintro e wf ⟨rfl, hrd, ha⟩
 clear HC
 have HRf := qh hrd
 have HAf := qh (HAc.out.next ha)
 replace HOP := qh (Open.later HOP.out (ha) HLT.out)
 clear hrd ha
 have HCF := qh (zxx hF hN wf.drew d (i1 + 1) _ rfl (by rw [hb2]; nofun) HRf.out.drew)
 rw [hb2] at HCF
 obtain ⟨hc3, hcf, hcl⟩ := HOP.out.cell
 obtain ⟨ua, uc, hue⟩ := HOP.out.shape
 subst hue
 go_wp2_with fail
 refine wp_region_any (by kernel_rfl) ?_
 change wpAny _ _ _ _ _ _ _ (World.drew _)
 refine wt 0 (nPtr p0) ?_
 refine wt 1 (nPtr p0) ?_
 refine wt 2 (nPtr p0) ?_
 refine wt 3 (.pointer (some ⟨p0, 3, none⟩)) ?_
 refine wt 5 (rPtr c) ?_
 refine wr2 4 6 (fun K hK => ?_) fun K hK => ?_
 ·
  go_simp; refine hK _ _ ?_; clear hK K; refine wr1 6 fun K hK => ?_; go_simp; refine cm HCF.out ?_; intro e wc hp; obtain ⟨rfl, ha⟩ := hp; exact ⟨rfl, zq7 rfl (HAf.out.drew.next ha)⟩
 ·
  go_simp; refine cm HCF.out ?_; intro e wc hp; obtain ⟨rfl, ha⟩ := hp; exact ⟨rfl, zq7 rfl (HAf.out.drew.next ha)⟩
theorem at_c1 {c : Ctx} {F : Fns} (hF : FC c F) (hN : ∃ k, FNx c.l k F) (w : World) (d i i0 : Nat) (h : Rdr c w i d) (hm : zz0 c.l tTry i = .ok () i0) (b : Tr) (i1 : Nat) (hb : zq0 c.l F d i0 = .ok b i1) (hc : fx c.l i1 = zj5) (er : Int) (p : Nat) (h2 : zz0 c.l zxk (i1 + 1) = .bad er p) : Calls Tryz.prog 170 #[rPtr c] w (zk3 c w d (NV w.heap.size) (.bad er p)) := by
 have HLO := qh h.base.size
 obtain ⟨i0', hi0, hz0, hz1, hz2⟩ := info_parts zk0
 have HR0 := qh h
 have HA0 := qh (Ap.refl c.R w.heap.size w)
 have HLT := qh h.rlt
 clear h
 go_enter Tryz.func170, Tryz.ntmps170
 have HC := qh (zz7 c tTry w i d HR0.out (by decide))
 rw [hm] at HC
 go_wp2_with fail
 refine cm HC.out ?_
 intro e wa hp
 obtain ⟨⟨va, rfl, rfl⟩, hrd, ha⟩ := hp
 clear HC
 have HRa := qh hrd
 have HAa := qh (HA0.out.next ha)
 clear hrd ha
 have HC := qh (zxx hF hN wa d i0 _ rfl (by rw [hb]; nofun) HRa.out)
 rw [hb] at HC
 go_wp2_with fail
 refine cm HC.out ?_
 intro e wb hp
 obtain ⟨⟨vb, rfl, hnb⟩, hrd, ha⟩ := hp
 clear HC
 have HRb := qh hrd
 have HAb := qh (HAa.out.next ha)
 obtain ⟨pb, rfl, hmb⟩ := (EV.mono hnb HAa.out.size).nv
 have HNb := qh hmb
 clear hnb hmb
 clear hrd ha
 have HC := qh (zqk 12 zzx (.slice (some ⟨wb.heap.size, 0, none⟩) 1 1) (wb.alloc (.cells #[nPtr pb] 22)) ⟨_, _, _, rfl⟩)
 go_wp2_with fail
 refine cm HC.out ?_
 rintro e wn0 ⟨rfl, rfl⟩
 clear HC
 obtain ⟨m1, m2, m3⟩ := made HRb.out HAb.out (NAts.cons HNb.out NAts.nil) (by simp [maxLen]) #[nPtr pb] rfl 1 rfl 12 zzx (wb.heap.size + 1) rfl
 obtain ⟨t0, ht0⟩ : ∃ t0 : Tr, t0 = .mk 12 zzx 0 [b] := ⟨_, rfl⟩
 rw [← ht0] at m1
 have HKL : Hid (t0.kids.length = 1) := by
  show _ = _
  rw [ht0]; rfl
 have HT0 := qh ht0
 obtain ⟨p0, u0, ps0, hpe, hop⟩ := m1.opens
 have hpe2 : p0 = wb.heap.size + 1 := by simpa [nPtr] using hpe.symm
 rw [hpe2] at hop
 have HOP := qh hop
 have HRn := qh m2
 have HAn := qh m3
 clear m1 m2 m3 hop hpe ht0
 obtain ⟨wn, hwn⟩ : ∃ wn, wn = (wb.alloc (.cells #[nPtr pb] 22)).alloc (zzk 12 zzx 0 (.slice (some ⟨wb.heap.size, 0, none⟩) 1 1)) := ⟨_, rfl⟩
 rw [← hwn] at HOP HRn HAn
 rw [← hpe2] at HOP
 rw [show (wb.alloc (.cells #[nPtr pb] 22)).heap.size = p0 by rw [hpe2]; simp, ← hwn]
 clear hwn hpe2
 have HC := qh (zkv c zj5 wn i1 d HRn.out hc (by decide))
 go_wp2_with fail
 refine cm HC.out ?_
 rintro e wc ⟨rfl, hrd, ha⟩
 clear HC
 have HRc := qh hrd
 have HAc := qh (HAn.out.next ha)
 replace HOP := qh (Open.later HOP.out (ha) HLT.out)
 clear hrd ha
 have HC := qh (zz7 c zxk wc (i1 + 1) d HRc.out (by decide))
 rw [h2] at HC
 go_wp2_with fail
 refine cm HC.out ?_
 intro e w' hp
 obtain ⟨rfl, ha⟩ := hp
 exact ⟨rfl, zq7 rfl (HAc.out.next ha)⟩
theorem at_c2 {c : Ctx} {F : Fns} (hF : FC c F) (hN : ∃ k, FNx c.l k F) (w : World) (d i i0 : Nat) (h : Rdr c w i d) (hm : zz0 c.l tTry i = .ok () i0) (b : Tr) (i1 : Nat) (hb : zq0 c.l F d i0 = .ok b i1) (hc : fx c.l i1 = zj5) (i2 : Nat) (h2 : zz0 c.l zxk (i1 + 1) = .ok () i2) (er : Int) (p : Nat) (h3 : zjq c.l i2 = .bad er p) : Calls Tryz.prog 170 #[rPtr c] w (zk3 c w d (NV w.heap.size) (.bad er p)) := by
 have HLO := qh h.base.size
 obtain ⟨i0', hi0, hz0, hz1, hz2⟩ := info_parts zk0
 have HR0 := qh h
 have HA0 := qh (Ap.refl c.R w.heap.size w)
 have HLT := qh h.rlt
 clear h
 go_enter Tryz.func170, Tryz.ntmps170
 have HC := qh (zz7 c tTry w i d HR0.out (by decide))
 rw [hm] at HC
 go_wp2_with fail
 refine cm HC.out ?_
 intro e wa hp
 obtain ⟨⟨va, rfl, rfl⟩, hrd, ha⟩ := hp
 clear HC
 have HRa := qh hrd
 have HAa := qh (HA0.out.next ha)
 clear hrd ha
 have HC := qh (zxx hF hN wa d i0 _ rfl (by rw [hb]; nofun) HRa.out)
 rw [hb] at HC
 go_wp2_with fail
 refine cm HC.out ?_
 intro e wb hp
 obtain ⟨⟨vb, rfl, hnb⟩, hrd, ha⟩ := hp
 clear HC
 have HRb := qh hrd
 have HAb := qh (HAa.out.next ha)
 obtain ⟨pb, rfl, hmb⟩ := (EV.mono hnb HAa.out.size).nv
 have HNb := qh hmb
 clear hnb hmb
 clear hrd ha
 have HC := qh (zqk 12 zzx (.slice (some ⟨wb.heap.size, 0, none⟩) 1 1) (wb.alloc (.cells #[nPtr pb] 22)) ⟨_, _, _, rfl⟩)
 go_wp2_with fail
 refine cm HC.out ?_
 rintro e wn0 ⟨rfl, rfl⟩
 clear HC
 obtain ⟨m1, m2, m3⟩ := made HRb.out HAb.out (NAts.cons HNb.out NAts.nil) (by simp [maxLen]) #[nPtr pb] rfl 1 rfl 12 zzx (wb.heap.size + 1) rfl
 obtain ⟨t0, ht0⟩ : ∃ t0 : Tr, t0 = .mk 12 zzx 0 [b] := ⟨_, rfl⟩
 rw [← ht0] at m1
 have HKL : Hid (t0.kids.length = 1) := by
  show _ = _
  rw [ht0]; rfl
 have HT0 := qh ht0
 obtain ⟨p0, u0, ps0, hpe, hop⟩ := m1.opens
 have hpe2 : p0 = wb.heap.size + 1 := by simpa [nPtr] using hpe.symm
 rw [hpe2] at hop
 have HOP := qh hop
 have HRn := qh m2
 have HAn := qh m3
 clear m1 m2 m3 hop hpe ht0
 obtain ⟨wn, hwn⟩ : ∃ wn, wn = (wb.alloc (.cells #[nPtr pb] 22)).alloc (zzk 12 zzx 0 (.slice (some ⟨wb.heap.size, 0, none⟩) 1 1)) := ⟨_, rfl⟩
 rw [← hwn] at HOP HRn HAn
 rw [← hpe2] at HOP
 rw [show (wb.alloc (.cells #[nPtr pb] 22)).heap.size = p0 by rw [hpe2]; simp, ← hwn]
 clear hwn hpe2
 have HC := qh (zkv c zj5 wn i1 d HRn.out hc (by decide))
 go_wp2_with fail
 refine cm HC.out ?_
 rintro e wc ⟨rfl, hrd, ha⟩
 clear HC
 have HRc := qh hrd
 have HAc := qh (HAn.out.next ha)
 replace HOP := qh (Open.later HOP.out (ha) HLT.out)
 clear hrd ha
 have HC := qh (zz7 c zxk wc (i1 + 1) d HRc.out (by decide))
 rw [h2] at HC
 go_wp2_with fail
 refine cm HC.out ?_
 intro e wd hp
 obtain ⟨⟨vd, rfl, rfl⟩, hrd, ha⟩ := hp
 clear HC
 have HRd := qh hrd
 have HAd := qh (HAc.out.next ha)
 replace HOP := qh (Open.later HOP.out (ha) HLT.out)
 clear hrd ha
 have HC := qh (zk1 c wd i2 d HRd.out)
 rw [h3] at HC
 go_wp2_with fail
 refine cm HC.out ?_
 intro e w' hp
 obtain ⟨rfl, ha⟩ := hp
 exact ⟨rfl, zq7 rfl (HAd.out.next ha)⟩
theorem at_c3 {c : Ctx} {F : Fns} (hF : FC c F) (hN : ∃ k, FNx c.l k F) (w : World) (d i i0 : Nat) (h : Rdr c w i d) (hm : zz0 c.l tTry i = .ok () i0) (b : Tr) (i1 : Nat) (hb : zq0 c.l F d i0 = .ok b i1) (hc : fx c.l i1 = zj5) (i2 : Nat) (h2 : zz0 c.l zxk (i1 + 1) = .ok () i2) (s : ByteArray) (i3 : Nat) (h3 : zjq c.l i2 = .ok s i3) (er : Int) (p : Nat) (h4 : zz0 c.l zjy i3 = .bad er p) : Calls Tryz.prog 170 #[rPtr c] w (zk3 c w d (NV w.heap.size) (.bad er p)) := by
 have HLO := qh h.base.size
 obtain ⟨i0', hi0, hz0, hz1, hz2⟩ := info_parts zk0
 have HR0 := qh h
 have HA0 := qh (Ap.refl c.R w.heap.size w)
 have HLT := qh h.rlt
 clear h
 go_enter Tryz.func170, Tryz.ntmps170
 have HC := qh (zz7 c tTry w i d HR0.out (by decide))
 rw [hm] at HC
 go_wp2_with fail
 refine cm HC.out ?_
 intro e wa hp
 obtain ⟨⟨va, rfl, rfl⟩, hrd, ha⟩ := hp
 clear HC
 have HRa := qh hrd
 have HAa := qh (HA0.out.next ha)
 clear hrd ha
 have HC := qh (zxx hF hN wa d i0 _ rfl (by rw [hb]; nofun) HRa.out)
 rw [hb] at HC
 go_wp2_with fail
 refine cm HC.out ?_
 intro e wb hp
 obtain ⟨⟨vb, rfl, hnb⟩, hrd, ha⟩ := hp
 clear HC
 have HRb := qh hrd
 have HAb := qh (HAa.out.next ha)
 obtain ⟨pb, rfl, hmb⟩ := (EV.mono hnb HAa.out.size).nv
 have HNb := qh hmb
 clear hnb hmb
 clear hrd ha
 have HC := qh (zqk 12 zzx (.slice (some ⟨wb.heap.size, 0, none⟩) 1 1) (wb.alloc (.cells #[nPtr pb] 22)) ⟨_, _, _, rfl⟩)
 go_wp2_with fail
 refine cm HC.out ?_
 rintro e wn0 ⟨rfl, rfl⟩
 clear HC
 obtain ⟨m1, m2, m3⟩ := made HRb.out HAb.out (NAts.cons HNb.out NAts.nil) (by simp [maxLen]) #[nPtr pb] rfl 1 rfl 12 zzx (wb.heap.size + 1) rfl
 obtain ⟨t0, ht0⟩ : ∃ t0 : Tr, t0 = .mk 12 zzx 0 [b] := ⟨_, rfl⟩
 rw [← ht0] at m1
 have HKL : Hid (t0.kids.length = 1) := by
  show _ = _
  rw [ht0]; rfl
 have HT0 := qh ht0
 obtain ⟨p0, u0, ps0, hpe, hop⟩ := m1.opens
 have hpe2 : p0 = wb.heap.size + 1 := by simpa [nPtr] using hpe.symm
 rw [hpe2] at hop
 have HOP := qh hop
 have HRn := qh m2
 have HAn := qh m3
 clear m1 m2 m3 hop hpe ht0
 obtain ⟨wn, hwn⟩ : ∃ wn, wn = (wb.alloc (.cells #[nPtr pb] 22)).alloc (zzk 12 zzx 0 (.slice (some ⟨wb.heap.size, 0, none⟩) 1 1)) := ⟨_, rfl⟩
 rw [← hwn] at HOP HRn HAn
 rw [← hpe2] at HOP
 rw [show (wb.alloc (.cells #[nPtr pb] 22)).heap.size = p0 by rw [hpe2]; simp, ← hwn]
 clear hwn hpe2
 have HC := qh (zkv c zj5 wn i1 d HRn.out hc (by decide))
 go_wp2_with fail
 refine cm HC.out ?_
 rintro e wc ⟨rfl, hrd, ha⟩
 clear HC
 have HRc := qh hrd
 have HAc := qh (HAn.out.next ha)
 replace HOP := qh (Open.later HOP.out (ha) HLT.out)
 clear hrd ha
 have HC := qh (zz7 c zxk wc (i1 + 1) d HRc.out (by decide))
 rw [h2] at HC
 go_wp2_with fail
 refine cm HC.out ?_
 intro e wd hp
 obtain ⟨⟨vd, rfl, rfl⟩, hrd, ha⟩ := hp
 clear HC
 have HRd := qh hrd
 have HAd := qh (HAc.out.next ha)
 replace HOP := qh (Open.later HOP.out (ha) HLT.out)
 clear hrd ha
 have HC := qh (zk1 c wd i2 d HRd.out)
 rw [h3] at HC
 go_wp2_with fail
 refine cm HC.out ?_
 intro e we hp
 obtain ⟨⟨ve, rfl, rfl⟩, hrd, ha⟩ := hp
 clear HC
 have HRe := qh hrd
 have HAe := qh (HAd.out.next ha)
 replace HOP := qh (Open.later HOP.out (ha) HLT.out)
 clear hrd ha
 have HC := qh (zz7 c zjy we i3 d HRe.out (by decide))
 rw [h4] at HC
 go_wp2_with fail
 refine cm HC.out ?_
 intro e w' hp
 obtain ⟨rfl, ha⟩ := hp
 exact ⟨rfl, zq7 rfl (HAe.out.next ha)⟩
theorem at_c4 {c : Ctx} {F : Fns} (hF : FC c F) (hN : ∃ k, FNx c.l k F) (w : World) (d i i0 : Nat) (h : Rdr c w i d) (hm : zz0 c.l tTry i = .ok () i0) (b : Tr) (i1 : Nat) (hb : zq0 c.l F d i0 = .ok b i1) (hc : fx c.l i1 = zj5) (i2 : Nat) (h2 : zz0 c.l zxk (i1 + 1) = .ok () i2) (s : ByteArray) (i3 : Nat) (h3 : zjq c.l i2 = .ok s i3) (i4 : Nat) (h4 : zz0 c.l zjy i3 = .ok () i4) (er : Int) (p : Nat) (h5 : zq0 c.l F d i4 = .bad er p) : Calls Tryz.prog 170 #[rPtr c] w (zk3 c w d (NV w.heap.size) (.bad er p)) := by
 have HLO := qh h.base.size
 obtain ⟨i0', hi0, hz0, hz1, hz2⟩ := info_parts zk0
 have HR0 := qh h
 have HA0 := qh (Ap.refl c.R w.heap.size w)
 have HLT := qh h.rlt
 clear h
 go_enter Tryz.func170, Tryz.ntmps170
 have HC := qh (zz7 c tTry w i d HR0.out (by decide))
 rw [hm] at HC
 go_wp2_with fail
 refine cm HC.out ?_
 intro e wa hp
 obtain ⟨⟨va, rfl, rfl⟩, hrd, ha⟩ := hp
 clear HC
 have HRa := qh hrd
 have HAa := qh (HA0.out.next ha)
 clear hrd ha
 have HC := qh (zxx hF hN wa d i0 _ rfl (by rw [hb]; nofun) HRa.out)
 rw [hb] at HC
 go_wp2_with fail
 refine cm HC.out ?_
 intro e wb hp
 obtain ⟨⟨vb, rfl, hnb⟩, hrd, ha⟩ := hp
 clear HC
 have HRb := qh hrd
 have HAb := qh (HAa.out.next ha)
 obtain ⟨pb, rfl, hmb⟩ := (EV.mono hnb HAa.out.size).nv
 have HNb := qh hmb
 clear hnb hmb
 clear hrd ha
 have HC := qh (zqk 12 zzx (.slice (some ⟨wb.heap.size, 0, none⟩) 1 1) (wb.alloc (.cells #[nPtr pb] 22)) ⟨_, _, _, rfl⟩)
 go_wp2_with fail
 refine cm HC.out ?_
 rintro e wn0 ⟨rfl, rfl⟩
 clear HC
 obtain ⟨m1, m2, m3⟩ := made HRb.out HAb.out (NAts.cons HNb.out NAts.nil) (by simp [maxLen]) #[nPtr pb] rfl 1 rfl 12 zzx (wb.heap.size + 1) rfl
 obtain ⟨t0, ht0⟩ : ∃ t0 : Tr, t0 = .mk 12 zzx 0 [b] := ⟨_, rfl⟩
 rw [← ht0] at m1
 have HKL : Hid (t0.kids.length = 1) := by
  show _ = _
  rw [ht0]; rfl
 have HT0 := qh ht0
 obtain ⟨p0, u0, ps0, hpe, hop⟩ := m1.opens
 have hpe2 : p0 = wb.heap.size + 1 := by simpa [nPtr] using hpe.symm
 rw [hpe2] at hop
 have HOP := qh hop
 have HRn := qh m2
 have HAn := qh m3
 clear m1 m2 m3 hop hpe ht0
 obtain ⟨wn, hwn⟩ : ∃ wn, wn = (wb.alloc (.cells #[nPtr pb] 22)).alloc (zzk 12 zzx 0 (.slice (some ⟨wb.heap.size, 0, none⟩) 1 1)) := ⟨_, rfl⟩
 rw [← hwn] at HOP HRn HAn
 rw [← hpe2] at HOP
 rw [show (wb.alloc (.cells #[nPtr pb] 22)).heap.size = p0 by rw [hpe2]; simp, ← hwn]
 clear hwn hpe2
 have HC := qh (zkv c zj5 wn i1 d HRn.out hc (by decide))
 go_wp2_with fail
 refine cm HC.out ?_
 rintro e wc ⟨rfl, hrd, ha⟩
 clear HC
 have HRc := qh hrd
 have HAc := qh (HAn.out.next ha)
 replace HOP := qh (Open.later HOP.out (ha) HLT.out)
 clear hrd ha
 have HC := qh (zz7 c zxk wc (i1 + 1) d HRc.out (by decide))
 rw [h2] at HC
 go_wp2_with fail
 refine cm HC.out ?_
 intro e wd hp
 obtain ⟨⟨vd, rfl, rfl⟩, hrd, ha⟩ := hp
 clear HC
 have HRd := qh hrd
 have HAd := qh (HAc.out.next ha)
 replace HOP := qh (Open.later HOP.out (ha) HLT.out)
 clear hrd ha
 have HC := qh (zk1 c wd i2 d HRd.out)
 rw [h3] at HC
 go_wp2_with fail
 refine cm HC.out ?_
 intro e we hp
 obtain ⟨⟨ve, rfl, rfl⟩, hrd, ha⟩ := hp
 clear HC
 have HRe := qh hrd
 have HAe := qh (HAd.out.next ha)
 replace HOP := qh (Open.later HOP.out (ha) HLT.out)
 clear hrd ha
 have HC := qh (zz7 c zjy we i3 d HRe.out (by decide))
 rw [h4] at HC
 go_wp2_with fail
 refine cm HC.out ?_
 intro e wg1 hp
 obtain ⟨⟨vg1, rfl, rfl⟩, hrd, ha⟩ := hp
 clear HC
 have HRg1 := qh hrd
 have HAg1 := qh (HAe.out.next ha)
 replace HOP := qh (Open.later HOP.out (ha) HLT.out)
 clear hrd ha
 have HCC := qh (zxx hF hN wg1.drew d i4 _ rfl (by rw [h5]; nofun) HRg1.out.drew)
 rw [h5] at HCC
 obtain ⟨hc3, hcf, hcl⟩ := HOP.out.cell
 obtain ⟨ua, uc, hue⟩ := HOP.out.shape
 subst hue
 go_wp2_with fail
 refine wp_region_any (by kernel_rfl) ?_
 change wpAny _ _ _ _ _ _ _ (World.drew _)
 refine wt 0 (nPtr p0) ?_
 refine wt 1 (nPtr p0) ?_
 refine wt 2 (nPtr p0) ?_
 refine wt 3 (.pointer (some ⟨p0, 3, none⟩)) ?_
 refine wt 5 (.string s) ?_
 refine wt 6 (rPtr c) ?_
 refine wr2 4 7 (fun K hK => ?_) fun K hK => ?_
 ·
  go_simp; refine hK _ _ ?_; clear hK K; refine wr1 7 fun K hK => ?_; go_simp; refine cm HCC.out ?_; intro e wc hp; obtain ⟨rfl, ha⟩ := hp; exact ⟨rfl, zq7 rfl (HAg1.out.drew.next ha)⟩
 ·
  go_simp; refine cm HCC.out ?_; intro e wc hp; obtain ⟨rfl, ha⟩ := hp; exact ⟨rfl, zq7 rfl (HAg1.out.drew.next ha)⟩
theorem at_catch {c : Ctx} {F : Fns} (hF : FC c F) (hN : ∃ k, FNx c.l k F) (w : World) (d i i0 : Nat) (h : Rdr c w i d) (hm : zz0 c.l tTry i = .ok () i0) (b : Tr) (i1 : Nat) (hb : zq0 c.l F d i0 = .ok b i1) (hc : fx c.l i1 = zj5) (i2 : Nat) (h2 : zz0 c.l zxk (i1 + 1) = .ok () i2) (s : ByteArray) (i3 : Nat) (h3 : zjq c.l i2 = .ok s i3) (i4 : Nat) (h4 : zz0 c.l zjy i3 = .ok () i4) (b2 : Tr) (i5 : Nat) (h5 : zq0 c.l F d i4 = .ok b2 i5) (hf : fx c.l i5 ≠ zxz) : Calls Tryz.prog 170 #[rPtr c] w (zk3 c w d (NV w.heap.size) (.ok (.mk 12 zzx 0 [b, .mk 13 s 0 [b2]]) i5)) := by
 have HLO := qh h.base.size
 obtain ⟨i0', hi0, hz0, hz1, hz2⟩ := info_parts zk0
 have HR0 := qh h
 have HA0 := qh (Ap.refl c.R w.heap.size w)
 have HLT := qh h.rlt
 clear h
 go_enter Tryz.func170, Tryz.ntmps170
 have HC := qh (zz7 c tTry w i d HR0.out (by decide))
 rw [hm] at HC
 go_wp2_with fail
 refine cm HC.out ?_
 intro e wa hp
 obtain ⟨⟨va, rfl, rfl⟩, hrd, ha⟩ := hp
 clear HC
 have HRa := qh hrd
 have HAa := qh (HA0.out.next ha)
 clear hrd ha
 have HC := qh (zxx hF hN wa d i0 _ rfl (by rw [hb]; nofun) HRa.out)
 rw [hb] at HC
 go_wp2_with fail
 refine cm HC.out ?_
 intro e wb hp
 obtain ⟨⟨vb, rfl, hnb⟩, hrd, ha⟩ := hp
 clear HC
 have HRb := qh hrd
 have HAb := qh (HAa.out.next ha)
 obtain ⟨pb, rfl, hmb⟩ := (EV.mono hnb HAa.out.size).nv
 have HNb := qh hmb
 clear hnb hmb
 clear hrd ha
 have HC := qh (zqk 12 zzx (.slice (some ⟨wb.heap.size, 0, none⟩) 1 1) (wb.alloc (.cells #[nPtr pb] 22)) ⟨_, _, _, rfl⟩)
 go_wp2_with fail
 refine cm HC.out ?_
 rintro e wn0 ⟨rfl, rfl⟩
 clear HC
 obtain ⟨m1, m2, m3⟩ := made HRb.out HAb.out (NAts.cons HNb.out NAts.nil) (by simp [maxLen]) #[nPtr pb] rfl 1 rfl 12 zzx (wb.heap.size + 1) rfl
 obtain ⟨t0, ht0⟩ : ∃ t0 : Tr, t0 = .mk 12 zzx 0 [b] := ⟨_, rfl⟩
 rw [← ht0] at m1
 have HKL : Hid (t0.kids.length = 1) := by
  show _ = _
  rw [ht0]; rfl
 have HT0 := qh ht0
 obtain ⟨p0, u0, ps0, hpe, hop⟩ := m1.opens
 have hpe2 : p0 = wb.heap.size + 1 := by simpa [nPtr] using hpe.symm
 rw [hpe2] at hop
 have HOP := qh hop
 have HRn := qh m2
 have HAn := qh m3
 clear m1 m2 m3 hop hpe ht0
 obtain ⟨wn, hwn⟩ : ∃ wn, wn = (wb.alloc (.cells #[nPtr pb] 22)).alloc (zzk 12 zzx 0 (.slice (some ⟨wb.heap.size, 0, none⟩) 1 1)) := ⟨_, rfl⟩
 rw [← hwn] at HOP HRn HAn
 rw [← hpe2] at HOP
 rw [show (wb.alloc (.cells #[nPtr pb] 22)).heap.size = p0 by rw [hpe2]; simp, ← hwn]
 clear hwn hpe2
 have HC := qh (zkv c zj5 wn i1 d HRn.out hc (by decide))
 go_wp2_with fail
 refine cm HC.out ?_
 rintro e wc ⟨rfl, hrd, ha⟩
 clear HC
 have HRc := qh hrd
 have HAc := qh (HAn.out.next ha)
 replace HOP := qh (Open.later HOP.out (ha) HLT.out)
 clear hrd ha
 have HC := qh (zz7 c zxk wc (i1 + 1) d HRc.out (by decide))
 rw [h2] at HC
 go_wp2_with fail
 refine cm HC.out ?_
 intro e wd hp
 obtain ⟨⟨vd, rfl, rfl⟩, hrd, ha⟩ := hp
 clear HC
 have HRd := qh hrd
 have HAd := qh (HAc.out.next ha)
 replace HOP := qh (Open.later HOP.out (ha) HLT.out)
 clear hrd ha
 have HC := qh (zk1 c wd i2 d HRd.out)
 rw [h3] at HC
 go_wp2_with fail
 refine cm HC.out ?_
 intro e we hp
 obtain ⟨⟨ve, rfl, rfl⟩, hrd, ha⟩ := hp
 clear HC
 have HRe := qh hrd
 have HAe := qh (HAd.out.next ha)
 replace HOP := qh (Open.later HOP.out (ha) HLT.out)
 clear hrd ha
 have HC := qh (zz7 c zjy we i3 d HRe.out (by decide))
 rw [h4] at HC
 go_wp2_with fail
 refine cm HC.out ?_
 intro e wg1 hp
 obtain ⟨⟨vg1, rfl, rfl⟩, hrd, ha⟩ := hp
 clear HC
 have HRg1 := qh hrd
 have HAg1 := qh (HAe.out.next ha)
 replace HOP := qh (Open.later HOP.out (ha) HLT.out)
 clear hrd ha
 have HCC := qh (zxx hF hN wg1.drew d i4 _ rfl (by rw [h5]; nofun) HRg1.out.drew)
 rw [h5] at HCC
 obtain ⟨hc3, hcf, hcl⟩ := HOP.out.cell
 obtain ⟨ua, uc, hue⟩ := HOP.out.shape
 subst hue
 go_wp2_with fail
 refine via2 (H := fun wc pc => Ap c.R wg1.heap.size wg1 wc ∧ Rdr c wc i5 d ∧ NAt (From wg1.heap.size) wc b2 pc) (G := ?G2) (fun CONT => ?_) ?_
 rotate_left
 ·
  refine wp_region_any (by kernel_rfl) ?_; change wpAny _ _ _ _ _ _ _ (World.drew _); refine wt 0 (nPtr p0) ?_; refine wt 1 (nPtr p0) ?_; refine wt 2 (nPtr p0) ?_; refine wt 3 (.pointer (some ⟨p0, 3, none⟩)) ?_
  refine wt 5 (.string s) ?_; refine wt 6 (rPtr c) ?_; refine wr2 4 7 (fun K hK => ?_) fun K hK => ?_
  ·
   go_simp; refine hK _ _ ?_; clear hK K; refine wr1 7 fun K hK => ?_; go_simp; refine cm HCC.out ?_; intro e wc hp; obtain ⟨⟨vc, rfl, hnc⟩, hrd, ha⟩ := hp; obtain ⟨pc, rfl, hmc⟩ := hnc.nv
   have ha0 := ((Ap.refl c.R wg1.heap.size wg1).drew).next ha; have HY : Hid (Ap c.R wg1.heap.size wg1 wc ∧ Rdr c wc i5 d ∧ NAt (From wg1.heap.size) wc b2 pc) := ⟨ha0, hrd, hmc⟩
   obtain ⟨gc3, gcf, gcl⟩ := (Open.later HOP.out ha0 HLT.out).cell; have gcl1 : p0 < wc.heap.size + 1 := by omega
   have gcl2 : p0 < wc.heap.size + 1 + 1 := by omega
   clear hrd ha ha0 hnc hmc; refine hK _ _ ?_; clear hK K; refine wr1 8 fun K hK => ?_; go_simp; refine hK _ _ ?_; clear hK K; refine wr1 9 fun K hK => ?_; go_simp
   refine cm (zqk 13 s (.slice (some ⟨wc.heap.size, 0, none⟩) 1 1) (wc.alloc (.cells #[nPtr pc] 22)) ⟨_, _, _, rfl⟩) ?_; rintro e wd0 ⟨rfl, rfl⟩; refine hK _ _ ?_; clear hK K; refine wr1 10 fun K hK => ?_; go_simp
   refine hK _ _ ?_; clear hK K; refine zq9 (listed' := tf 11 4) (by kernel_rfl) rfl ?_; exact CONT wc pc HY.out
  ·
   go_simp; refine cm HCC.out ?_; intro e wc hp; obtain ⟨⟨vc, rfl, hnc⟩, hrd, ha⟩ := hp; obtain ⟨pc, rfl, hmc⟩ := hnc.nv; have ha0 := ((Ap.refl c.R wg1.heap.size wg1).drew).next ha
   have HY : Hid (Ap c.R wg1.heap.size wg1 wc ∧ Rdr c wc i5 d ∧ NAt (From wg1.heap.size) wc b2 pc) := ⟨ha0, hrd, hmc⟩; obtain ⟨gc3, gcf, gcl⟩ := (Open.later HOP.out ha0 HLT.out).cell
   have gcl1 : p0 < wc.heap.size + 1 := by omega
   have gcl2 : p0 < wc.heap.size + 1 + 1 := by omega
   clear hrd ha ha0 hnc hmc; refine hK _ _ ?_; clear hK K; refine wr2 4 8 (fun K hK => ?_) fun K hK => ?_
   ·
    go_simp; refine hK _ _ ?_; clear hK K; refine wr1 8 fun K hK => ?_; go_simp; refine hK _ _ ?_; clear hK K; refine wr1 9 fun K hK => ?_; go_simp
    refine cm (zqk 13 s (.slice (some ⟨wc.heap.size, 0, none⟩) 1 1) (wc.alloc (.cells #[nPtr pc] 22)) ⟨_, _, _, rfl⟩) ?_; rintro e wd0 ⟨rfl, rfl⟩; refine hK _ _ ?_; clear hK K; refine wr1 10 fun K hK => ?_; go_simp
    refine hK _ _ ?_; clear hK K; exact Go.Proofs.YtoimgcjbcbhclaaGreatDoor.wz 11 4 (CONT wc pc HY.out)
   ·
    go_simp; refine hK _ _ ?_; clear hK K; refine wr2 4 9 (fun K hK => ?_) fun K hK => ?_
    ·
     go_simp; refine hK _ _ ?_; clear hK K; refine wr1 9 fun K hK => ?_; go_simp; refine cm (zqk 13 s (.slice (some ⟨wc.heap.size, 0, none⟩) 1 1) (wc.alloc (.cells #[nPtr pc] 22)) ⟨_, _, _, rfl⟩) ?_
     rintro e wd0 ⟨rfl, rfl⟩; refine hK _ _ ?_; clear hK K; refine wr1 10 fun K hK => ?_; go_simp; refine hK _ _ ?_; clear hK K; exact Go.Proofs.YtoimgcjbcbhclaaGreatDoor.wz 11 4 (CONT wc pc HY.out)
    ·
     go_simp; refine cm (zqk 13 s (.slice (some ⟨wc.heap.size, 0, none⟩) 1 1) (wc.alloc (.cells #[nPtr pc] 22)) ⟨_, _, _, rfl⟩) ?_; rintro e wd0 ⟨rfl, rfl⟩; refine hK _ _ ?_; clear hK K
     refine wr2 4 10 (fun K hK => ?_) fun K hK => ?_
     ·
      go_simp; refine hK _ _ ?_; clear hK K; refine wr1 10 fun K hK => ?_; go_simp; refine hK _ _ ?_; clear hK K; exact Go.Proofs.YtoimgcjbcbhclaaGreatDoor.wz 11 4 (CONT wc pc HY.out)
     ·
      go_simp; refine hK _ _ ?_; clear hK K; refine wr1 4 fun K hK => ?_; go_simp; refine hK _ _ ?_; clear hK K; exact Go.Proofs.YtoimgcjbcbhclaaGreatDoor.wz 11 4 (CONT wc pc HY.out)
 intro wc pc hY
 obtain ⟨ha0, hrd, hmc⟩ := hY
 have HAc := qh (HAg1.out.next ha0)
 have HA0c := qh ha0
 have HRc := qh hrd
 have HOc := qh (Open.later HOP.out ha0 HLT.out)
 have HNc := qh hmc
 obtain ⟨gc3, gcf, gcl⟩ := HOc.out.cell
 have gcl1 : p0 < wc.heap.size + 1 := by omega
 have gcl2 : p0 < wc.heap.size + 1 + 1 := by omega
 clear hrd ha0 hmc
 obtain ⟨n1, n2, n3⟩ := made (w := wg1) HRc.out HA0c.out (NAts.cons HNc.out NAts.nil) (by simp [maxLen]) #[nPtr pc] rfl 1 rfl 13 s (wc.heap.size + 1) rfl
 have hbd : Below wc.heap.size wc ((wc.alloc (.cells #[nPtr pc] 22)).alloc (zzk 13 s 0 (.slice (some ⟨wc.heap.size, 0, none⟩) 1 1))) := (qb.alloc qv _).alloc (by simp) _
 obtain ⟨wd, hwd⟩ : ∃ wd, wd = (wc.alloc (.cells #[nPtr pc] 22)).alloc (zzk 13 s 0 (.slice (some ⟨wc.heap.size, 0, none⟩) 1 1)) := ⟨_, rfl⟩
 have hq : (wc.alloc (.cells #[nPtr pc] 22)).heap.size = wc.heap.size + 1 := by simp
 obtain ⟨q, hqq⟩ : ∃ q, q = wc.heap.size + 1 := ⟨_, rfl⟩
 obtain ⟨pq, hpq, hnq⟩ := n1.nv
 have hpe : pq = wc.heap.size + 1 := by simpa [nPtr] using hpq.symm
 subst hpe
 have hws : wd.heap.size = q + 1 := by rw [hwd, hqq]; simp
 rw [← hwd] at hnq n2 n3 hbd
 try rw [hq]
 rw [← hqq] at hnq
 try rw [← hqq]
 try rw [← hwd]
 have HOd := qh (Open.later HOc.out (Ap.of hbd) HLT.out)
 have HAd := qh (HAc.out.next (Ap.of hbd))
 have HRd := qh n2
 have HNd := qh (Open.apart HOP.out HAg1.out.size n3 HLT.out (NAts.cons hnq NAts.nil))
 obtain ⟨ec3, ecf, ecl⟩ := HOd.out.cell
 clear n1 n2 n3 hbd hnq hpq hwd hqq hq gc3 gcf gcl gcl1 gcl2
 have hlen := NAts.length _ _ HOd.out.kids
 have hown := HOd.out.row
 rw [hlen] at hown
 have HOWN := qh hown
 have hsz := HAd.out.size
 have hkl : t0.kids.length ≤ 3 := by rw [HKL.out]; decide
 clear hown hlen
 refine wr1 11 fun K hK => ?_
 refine step_append_lies _ rfl _ _ 46 rfl w.heap.size 22 i0' (.pointer none) 1 8 Tryz.underlying46 hi0 hz0 hz1 hz2 rfl (by decide) _ _ _ rfl (HOWN.out.alloc _) ⟨q + 1, 0, none⟩ 1 1 [nPtr q] rfl rfl (zq1 wd q _ hws) (zxv q) (by decide) (by unfold maxLen; omega) (by omega) (by simp; omega) (wd.heap.size + 1) (by simp) ?_
 clear hws
 intro g cap w3 hown3 hgr3 hg3 _
 refine hK _ _ ?_
 clear hK K
 have HP1 := qh (push1 HOd.out HNd.out HRd.out HAd.out HLO.out hown3 hgr3 hg3)
 have hp3 : w3.cell? ⟨p0, 3, none⟩ = wd.cell? ⟨p0, 3, none⟩ ∧ w3.frozen? ⟨p0, 3, none⟩ = wd.frozen? ⟨p0, 3, none⟩ := by
  have hbb : w3.heap[p0]? = wd.heap[p0]? := (hgr3.block p0 (by simp; omega) (fun e => HOd.out.own e.symm)).trans (Below.heap_alloc wd _ p0 ecl)
  exact ⟨World.cell?_of_block (w := wd) hbb, World.frozen?_of_block (w := wd) hbb⟩
 obtain ⟨hp3c, hp3f⟩ := hp3
 rw [ec3] at hp3c
 rw [ecf 3] at hp3f
 clear hown3 hgr3 hg3
 refine wt 12 (nPtr p0) ?_
 refine wt 13 (.pointer (some ⟨p0, 3, none⟩)) ?_
 refine wr1 14 fun K hK => ?_
 go_simp
 refine hK _ _ ?_
 clear hK K hp3c hp3f ec3 ecf ecl HOWN
 refine wpAny_done (by kernel_rfl) ?_ _
 go_simp
 obtain ⟨m1, m2, m3⟩ := zzq HP1
 obtain ⟨t0x, ht2⟩ : ∃ tq : Tr, tq = .mk t0.kd t0.tx t0.n (t0.kids ++ [.mk 13 s 0 [b2]]) := ⟨_, rfl⟩
 rw [← ht2] at m1
 have HKLt0x : Hid (t0x.kids.length = t0.kids.length + 1) := by
  show _ = _
  rw [ht2]; simp [Tr.kids]
 have HTt0x := qh ht2
 obtain ⟨pz, uz, psz, hpz, hopz⟩ := m1.opens
 have hpz2 : pz = p0 := by simpa [nPtr] using hpz.symm
 rw [hpz2] at hopz
 obtain ⟨w4, hw4⟩ : ∃ w4, w4 = (w3.setCell ⟨p0, 3, none⟩ (.slice (some ⟨g, 0, none⟩) (t0.kids.length + 1) cap)) := ⟨_, rfl⟩
 rw [← hw4] at hopz m2 m3
 rw [← hw4]
 clear HOP
 have HOP := qh hopz
 have HR4C := qh m2
 have HA4C := qh m3
 clear m1 m2 m3 hopz hpz hw4 hpz2 ht2 HP1 HCC
 have HC := qh (zwj c zxz w4 i5 d HR4C.out hf)
 go_wp2_with fail
 refine cm HC.out ?_
 rintro e wz ⟨rfl, hb⟩
 clear HC
 have HRz := qh (HR4C.out.later hb)
 have HAz := qh (HA4C.out.next (Ap.of hb))
 replace HOP := qh (Open.later HOP.out (Ap.of hb) HLT.out)
 clear hb
 obtain ⟨hc3, hcf, hcl⟩ := HOP.out.cell
 obtain ⟨ua, uc, hue⟩ := HOP.out.shape
 subst hue
 have hk2 : t0x.kids.length = 2 := by rw [HKLt0x.out, HKL.out]
 rw [hk2] at hc3
 clear hk2
 go_wp2_with fail
 go_ret
 have e0 := zzq HT0
 have e1 := zzq HTt0x
 have hnv := HOP.out.ev.nv
 rw [e1, e0] at hnv
 exact ppOk rfl hnv HRz.out HAz.out
end Go.Proofs.YtoimgcjbcbhclaaGreatDoor
