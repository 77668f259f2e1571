/-
  try, with catch, or finally, or both.
-/
import Derived.Test.YtoimgcjbcbhclaaGreatDoorAo0
import Derived.Test.YtoimgcjbcbhclaaGreatDoorAo1
import Derived.Test.YtoimgcjbcbhclaaGreatDoorAo7
import Derived.Test.YtoimgcjbcbhclaaGreatDoorAo11
import Derived.Deep.MidRow
import Derived.Laws.AppendOwnNone
set_option maxRecDepth 100000
set_option maxHeartbeats 16000000
namespace Go.Proofs.YtoimgcjbcbhclaaGreatDoor
open Go.RowKit
theorem bind_assoc {α β γ : Type} (r : PR α) (f : α → Nat → PR β) (g : β → Nat → PR γ) : (r.bind f).bind g = r.bind fun x i => (f x i).bind g := by cases r <;> rfl
theorem at_b {c : Ctx} {F : Fns} (hF : FC c F) (hN : ∃ k, FNx c.l k F) (w : World) (d i i0 : Nat) (h : Rdr c w i d) (hm : mustP c.l tTry i = .ok () i0) (er : Int) (p : Nat) (hb : blockP c.l F d i0 = .bad er p) : Calls Tryz.prog 170 #[rPtr c] w (PPost c w d (NV w.heap.size) (.bad er p)) := by
 have HLO := hide h.base.size
 obtain ⟨i0', hi0, hz0, hz1, hz2⟩ := info_parts info22
 have HR0 := hide h
 have HA0 := hide (Ap.refl c.R w.heap.size w)
 have HLT := hide h.rlt
 clear h
 go_enter Tryz.func170, Tryz.ntmps170
 have HC := hide (must_any c tTry w i d HR0.out (by decide))
 rw [hm] at HC
 go_wp2_with fail
 refine cm HC.out ?_
 intro e wa hp
 obtain ⟨⟨va, rfl, rfl⟩, hrd, ha⟩ := hp
 clear HC
 have HRa := hide hrd
 have HAa := hide (HA0.out.next ha)
 clear hrd ha
 have HC := hide (block_any hF hN wa d i0 _ rfl (by rw [hb]; nofun) HRa.out)
 rw [hb] at HC
 go_wp2_with fail
 refine cm HC.out ?_
 intro e w' hp
 obtain ⟨rfl, ha⟩ := hp
 exact ⟨rfl, ppBad rfl (HAa.out.next ha)⟩
section
variable {c : Ctx} {F : Fns} (hF : FC c F) (hN : ∃ k, FNx c.l k F) (w : World) (d i i0 : Nat) (h : Rdr c w i d) (hm : mustP c.l tTry i = .ok () i0) (b : Tr) (i1 : Nat) (hb : blockP c.l F d i0 = .ok b i1)
include c F hF hN w d i i0 h hm b i1 hb
theorem at_none (hc : fx c.l i1 ≠ tCatch) (hf : fx c.l i1 ≠ tFinally) : Calls Tryz.prog 170 #[rPtr c] w (PPost c w d (NV w.heap.size) (.bad 3 (tkA c.l i1).pl)) := by
 have HLO := hide h.base.size
 obtain ⟨i0', hi0, hz0, hz1, hz2⟩ := info_parts info22
 have HR0 := hide h
 have HA0 := hide (Ap.refl c.R w.heap.size w)
 have HLT := hide h.rlt
 clear h
 go_enter Tryz.func170, Tryz.ntmps170
 have HC := hide (must_any c tTry w i d HR0.out (by decide))
 rw [hm] at HC
 go_wp2_with fail
 refine cm HC.out ?_
 intro e wa hp
 obtain ⟨⟨va, rfl, rfl⟩, hrd, ha⟩ := hp
 clear HC
 have HRa := hide hrd
 have HAa := hide (HA0.out.next ha)
 clear hrd ha
 have HC := hide (block_any hF hN wa d i0 _ rfl (by rw [hb]; nofun) HRa.out)
 rw [hb] at HC
 go_wp2_with fail
 refine cm HC.out ?_
 intro e wb hp
 obtain ⟨⟨vb, rfl, hnb⟩, hrd, ha⟩ := hp
 clear HC
 have HRb := hide hrd
 have HAb := hide (HAa.out.next ha)
 obtain ⟨pb, rfl, hmb⟩ := (EV.mono hnb HAa.out.size).nv
 have HNb := hide hmb
 clear hnb hmb
 clear hrd ha
 have HC := hide (node_any 12 noText (.slice (some ⟨wb.heap.size, 0, none⟩) 1 1) (wb.alloc (.cells #[nPtr pb] 22)) ⟨_, _, _, rfl⟩)
 go_wp2_with fail
 refine cm HC.out ?_
 rintro e wn0 ⟨rfl, rfl⟩
 clear HC
 obtain ⟨m1, m2, m3⟩ := made HRb.out HAb.out (NAts.cons HNb.out NAts.nil) (by simp [maxLen]) #[nPtr pb] rfl 1 rfl 12 noText (wb.heap.size + 1) rfl
 obtain ⟨t0, ht0⟩ : ∃ t0 : Tr, t0 = .mk 12 noText 0 [b] := ⟨_, rfl⟩
 rw [← ht0] at m1
 have HKL : Hid (t0.kids.length = 1) := by
  show _ = _
  rw [ht0]; rfl
 have HT0 := hide ht0
 obtain ⟨p0, u0, ps0, hpe, hop⟩ := m1.opens
 have hpe2 : p0 = wb.heap.size + 1 := by simpa [nPtr] using hpe.symm
 rw [hpe2] at hop
 have HOP := hide hop
 have HRn := hide m2
 have HAn := hide m3
 clear m1 m2 m3 hop hpe ht0
 obtain ⟨wn, hwn⟩ : ∃ wn, wn = (wb.alloc (.cells #[nPtr pb] 22)).alloc (nodeObj 12 noText 0 (.slice (some ⟨wb.heap.size, 0, none⟩) 1 1)) := ⟨_, rfl⟩
 rw [← hwn] at HOP HRn HAn
 rw [← hpe2] at HOP
 rw [show (wb.alloc (.cells #[nPtr pb] 22)).heap.size = p0 by rw [hpe2]; simp, ← hwn]
 clear hwn hpe2
 have HC := hide (take_not c tCatch wn i1 d HRn.out hc)
 go_wp2_with fail
 refine cm HC.out ?_
 rintro e wc ⟨rfl, hb⟩
 clear HC
 have HRc := hide (HRn.out.later hb)
 have HAc := hide (HAn.out.next (Ap.of hb))
 replace HOP := hide (Open.later HOP.out (Ap.of hb) HLT.out)
 clear hb
 have HC := hide (take_not c tFinally wc i1 d HRc.out hf)
 go_wp2_with fail
 refine cm HC.out ?_
 rintro e wf ⟨rfl, hb⟩
 clear HC
 have HRf := hide (HRc.out.later hb)
 have HAf := hide (HAc.out.next (Ap.of hb))
 replace HOP := hide (Open.later HOP.out (Ap.of hb) HLT.out)
 clear hb
 obtain ⟨hc3, hcf, hcl⟩ := HOP.out.cell
 obtain ⟨ua, uc, hue⟩ := HOP.out.shape
 subst hue
 rw [HKL.out] at hc3
 have HC := hide (fault_any c 3 wf i1 d HRf.out)
 go_wp2_with fail
 refine cm HC.out ?_
 rintro e w9 ⟨rfl, hb9⟩
 exact ⟨rfl, ppBad rfl (HAf.out.next (Ap.of hb9))⟩
theorem at_fin (hc : fx c.l i1 ≠ tCatch) (hf : fx c.l i1 = tFinally) (b2 : Tr) (i2 : Nat) (hb2 : blockP c.l F d (i1 + 1) = .ok b2 i2) : Calls Tryz.prog 170 #[rPtr c] w (PPost c w d (NV w.heap.size) (.ok (.mk 12 noText 0 [b, .mk 14 noText 0 [b2]]) i2)) := by
 have HLO := hide h.base.size
 obtain ⟨i0', hi0, hz0, hz1, hz2⟩ := info_parts info22
 have HR0 := hide h
 have HA0 := hide (Ap.refl c.R w.heap.size w)
 have HLT := hide h.rlt
 clear h
 go_enter Tryz.func170, Tryz.ntmps170
 have HC := hide (must_any c tTry w i d HR0.out (by decide))
 rw [hm] at HC
 go_wp2_with fail
 refine cm HC.out ?_
 intro e wa hp
 obtain ⟨⟨va, rfl, rfl⟩, hrd, ha⟩ := hp
 clear HC
 have HRa := hide hrd
 have HAa := hide (HA0.out.next ha)
 clear hrd ha
 have HC := hide (block_any hF hN wa d i0 _ rfl (by rw [hb]; nofun) HRa.out)
 rw [hb] at HC
 go_wp2_with fail
 refine cm HC.out ?_
 intro e wb hp
 obtain ⟨⟨vb, rfl, hnb⟩, hrd, ha⟩ := hp
 clear HC
 have HRb := hide hrd
 have HAb := hide (HAa.out.next ha)
 obtain ⟨pb, rfl, hmb⟩ := (EV.mono hnb HAa.out.size).nv
 have HNb := hide hmb
 clear hnb hmb
 clear hrd ha
 have HC := hide (node_any 12 noText (.slice (some ⟨wb.heap.size, 0, none⟩) 1 1) (wb.alloc (.cells #[nPtr pb] 22)) ⟨_, _, _, rfl⟩)
 go_wp2_with fail
 refine cm HC.out ?_
 rintro e wn0 ⟨rfl, rfl⟩
 clear HC
 obtain ⟨m1, m2, m3⟩ := made HRb.out HAb.out (NAts.cons HNb.out NAts.nil) (by simp [maxLen]) #[nPtr pb] rfl 1 rfl 12 noText (wb.heap.size + 1) rfl
 obtain ⟨t0, ht0⟩ : ∃ t0 : Tr, t0 = .mk 12 noText 0 [b] := ⟨_, rfl⟩
 rw [← ht0] at m1
 have HKL : Hid (t0.kids.length = 1) := by
  show _ = _
  rw [ht0]; rfl
 have HT0 := hide ht0
 obtain ⟨p0, u0, ps0, hpe, hop⟩ := m1.opens
 have hpe2 : p0 = wb.heap.size + 1 := by simpa [nPtr] using hpe.symm
 rw [hpe2] at hop
 have HOP := hide hop
 have HRn := hide m2
 have HAn := hide m3
 clear m1 m2 m3 hop hpe ht0
 obtain ⟨wn, hwn⟩ : ∃ wn, wn = (wb.alloc (.cells #[nPtr pb] 22)).alloc (nodeObj 12 noText 0 (.slice (some ⟨wb.heap.size, 0, none⟩) 1 1)) := ⟨_, rfl⟩
 rw [← hwn] at HOP HRn HAn
 rw [← hpe2] at HOP
 rw [show (wb.alloc (.cells #[nPtr pb] 22)).heap.size = p0 by rw [hpe2]; simp, ← hwn]
 clear hwn hpe2
 have HC := hide (take_not c tCatch wn i1 d HRn.out hc)
 go_wp2_with fail
 refine cm HC.out ?_
 rintro e wc ⟨rfl, hb⟩
 clear HC
 have HRc := hide (HRn.out.later hb)
 have HAc := hide (HAn.out.next (Ap.of hb))
 replace HOP := hide (Open.later HOP.out (Ap.of hb) HLT.out)
 clear hb
 have HC := hide (take_yes c tFinally wc i1 d HRc.out hf (by decide))
 go_wp2_with fail
 refine cm HC.out ?_
 rintro e wf ⟨rfl, hrd, ha⟩
 clear HC
 have HRf := hide hrd
 have HAf := hide (HAc.out.next ha)
 replace HOP := hide (Open.later HOP.out (ha) HLT.out)
 clear hrd ha
 have HCF := hide (block_any hF hN wf.drew d (i1 + 1) _ rfl (by rw [hb2]; nofun) HRf.out.drew)
 rw [hb2] at HCF
 obtain ⟨hc3, hcf, hcl⟩ := HOP.out.cell
 obtain ⟨ua, uc, hue⟩ := HOP.out.shape
 subst hue
 go_wp2_with fail
 refine via2 (H := fun wc pc => Ap c.R wf.heap.size wf wc ∧ Rdr c wc i2 d ∧ NAt (From wf.heap.size) wc b2 pc) (G := ?G1) (fun CONT => ?_) ?_
 rotate_left
 ·
  refine wp_region_any (by kernel_rfl) ?_; change wpAny _ _ _ _ _ _ _ (World.drew _); refine wt 0 (nPtr p0) ?_; refine wt 1 (nPtr p0) ?_; refine wt 2 (nPtr p0) ?_; refine wt 3 (.pointer (some ⟨p0, 3, none⟩)) ?_
  refine wt 5 (rPtr c) ?_; refine wr2 4 6 (fun K hK => ?_) fun K hK => ?_
  ·
   go_simp; refine hK _ _ ?_; clear hK K; refine wr1 6 fun K hK => ?_; go_simp; refine cm HCF.out ?_; intro e wc hp; obtain ⟨⟨vc, rfl, hnc⟩, hrd, ha⟩ := hp; obtain ⟨pc, rfl, hmc⟩ := hnc.nv
   have ha0 := ((Ap.refl c.R wf.heap.size wf).drew).next ha; have HY : Hid (Ap c.R wf.heap.size wf wc ∧ Rdr c wc i2 d ∧ NAt (From wf.heap.size) wc b2 pc) := ⟨ha0, hrd, hmc⟩; exact zcap
  ·
   go_simp; refine cm HCF.out ?_; intro e wc hp; obtain ⟨⟨vc, rfl, hnc⟩, hrd, ha⟩ := hp; obtain ⟨pc, rfl, hmc⟩ := hnc.nv; have ha0 := ((Ap.refl c.R wf.heap.size wf).drew).next ha
   have HY : Hid (Ap c.R wf.heap.size wf wc ∧ Rdr c wc i2 d ∧ NAt (From wf.heap.size) wc b2 pc) := ⟨ha0, hrd, hmc⟩; exact zcac
 intro wc pc hY
 obtain ⟨ha0, hrd, hmc⟩ := hY
 have HAc := hide (HAf.out.next ha0)
 have HA0c := hide ha0
 have HRc := hide hrd
 have HOc := hide (Open.later HOP.out ha0 HLT.out)
 have HNc := hide hmc
 obtain ⟨gc3, gcf, gcl⟩ := HOc.out.cell
 have gcl1 : p0 < wc.heap.size + 1 := by omega
 have gcl2 : p0 < wc.heap.size + 1 + 1 := by omega
 clear hrd ha0 hmc
 obtain ⟨n1, n2, n3⟩ := made (w := wf) HRc.out HA0c.out (NAts.cons HNc.out NAts.nil) (by simp [maxLen]) #[nPtr pc] rfl 1 rfl 14 noText (wc.heap.size + 1) rfl
 have hbd : Below wc.heap.size wc ((wc.alloc (.cells #[nPtr pc] 22)).alloc (nodeObj 14 noText 0 (.slice (some ⟨wc.heap.size, 0, none⟩) 1 1))) := ((Below.refl _ _).alloc (Nat.le_refl _) _).alloc (by simp) _
 obtain ⟨wd, hwd⟩ : ∃ wd, wd = (wc.alloc (.cells #[nPtr pc] 22)).alloc (nodeObj 14 noText 0 (.slice (some ⟨wc.heap.size, 0, none⟩) 1 1)) := ⟨_, rfl⟩
 have hq : (wc.alloc (.cells #[nPtr pc] 22)).heap.size = wc.heap.size + 1 := by simp
 obtain ⟨q, hqq⟩ : ∃ q, q = wc.heap.size + 1 := ⟨_, rfl⟩
 obtain ⟨pq, hpq, hnq⟩ := n1.nv
 have hpe : pq = wc.heap.size + 1 := by simpa [nPtr] using hpq.symm
 subst hpe
 have hws : wd.heap.size = q + 1 := by rw [hwd, hqq]; simp
 rw [← hwd] at hnq n2 n3 hbd
 try rw [hq]
 rw [← hqq] at hnq
 try rw [← hqq]
 try rw [← hwd]
 have HOd := hide (Open.later HOc.out (Ap.of hbd) HLT.out)
 have HAd := hide (HAc.out.next (Ap.of hbd))
 have HRd := hide n2
 have HNd := hide (Open.apart HOP.out HAf.out.size n3 HLT.out (NAts.cons hnq NAts.nil))
 obtain ⟨ec3, ecf, ecl⟩ := HOd.out.cell
 clear n1 n2 n3 hbd hnq hpq hwd hqq hq gc3 gcf gcl gcl1 gcl2
 have hlen := NAts.length _ _ HOd.out.kids
 have hown := HOd.out.row
 rw [hlen] at hown
 have HOWN := hide hown
 have hsz := HAd.out.size
 have hkl : t0.kids.length ≤ 3 := by rw [HKL.out]; decide
 clear hown hlen
 refine wr1 10 fun K hK => ?_
 refine step_append_lies _ rfl _ _ 46 rfl w.heap.size 22 i0' (.pointer none) 1 8 Tryz.underlying46 hi0 hz0 hz1 hz2 rfl (by decide) _ _ _ rfl (HOWN.out.alloc _) ⟨q + 1, 0, none⟩ 1 1 [nPtr q] rfl rfl (one_cells wd q _ hws) (one_one q) (by decide) (by unfold maxLen; omega) (by omega) (by simp; omega) (wd.heap.size + 1) (by simp) ?_
 clear hws
 intro g cap w3 hown3 hgr3 hg3 _
 refine hK _ _ ?_
 clear hK K
 have HP1 := hide (push1 HOd.out HNd.out HRd.out HAd.out HLO.out hown3 hgr3 hg3)
 have hp3 : w3.cell? ⟨p0, 3, none⟩ = wd.cell? ⟨p0, 3, none⟩ ∧ w3.frozen? ⟨p0, 3, none⟩ = wd.frozen? ⟨p0, 3, none⟩ := by
  exact zbbr
 obtain ⟨hp3c, hp3f⟩ := hp3
 rw [ec3] at hp3c
 rw [ecf 3] at hp3f
 clear hown3 hgr3 hg3
 refine wt 11 (nPtr p0) ?_
 refine wt 12 (.pointer (some ⟨p0, 3, none⟩)) ?_
 refine wr1 13 fun K hK => ?_
 go_simp
 refine hK _ _ ?_
 clear hK K hp3c hp3f ec3 ecf ecl HOWN
 refine wpAny_done (by kernel_rfl) ?_ _
 go_simp
 obtain ⟨m1, m2, m3⟩ := unhide HP1
 obtain ⟨t0x, ht2⟩ : ∃ tq : Tr, tq = .mk t0.kd t0.tx t0.n (t0.kids ++ [.mk 14 noText 0 [b2]]) := ⟨_, rfl⟩
 rw [← ht2] at m1
 have HKLt0x : Hid (t0x.kids.length = t0.kids.length + 1) := by
  show _ = _
  rw [ht2]; simp [Tr.kids]
 have HTt0x := hide ht2
 obtain ⟨pz, uz, psz, hpz, hopz⟩ := m1.opens
 have hpz2 : pz = p0 := by simpa [nPtr] using hpz.symm
 rw [hpz2] at hopz
 obtain ⟨w4, hw4⟩ : ∃ w4, w4 = (w3.setCell ⟨p0, 3, none⟩ (.slice (some ⟨g, 0, none⟩) (t0.kids.length + 1) cap)) := ⟨_, rfl⟩
 rw [← hw4] at hopz m2 m3
 rw [← hw4]
 clear HOP
 have HOP := hide hopz
 have HR4F := hide m2
 have HA4F := hide m3
 clear m1 m2 m3 hopz hpz hw4 hpz2 ht2 HP1 HCF
 obtain ⟨hc3, hcf, hcl⟩ := HOP.out.cell
 obtain ⟨ua, uc, hue⟩ := HOP.out.shape
 subst hue
 have hk2 : t0x.kids.length = 2 := by rw [HKLt0x.out, HKL.out]
 rw [hk2] at hc3
 clear hk2
 go_wp2_with fail
 go_ret
 have e0 := unhide HT0
 have e1 := unhide HTt0x
 have hnv := HOP.out.ev.nv
 rw [e1, e0] at hnv
 exact ppOk rfl hnv HR4F.out HA4F.out
theorem at_finbad (hc : fx c.l i1 ≠ tCatch) (hf : fx c.l i1 = tFinally) (er : Int) (p : Nat) (hb2 : blockP c.l F d (i1 + 1) = .bad er p) : Calls Tryz.prog 170 #[rPtr c] w (PPost c w d (NV w.heap.size) (.bad er p)) := by
 have HLO := hide h.base.size
 obtain ⟨i0', hi0, hz0, hz1, hz2⟩ := info_parts info22
 have HR0 := hide h
 have HA0 := hide (Ap.refl c.R w.heap.size w)
 have HLT := hide h.rlt
 clear h
 go_enter Tryz.func170, Tryz.ntmps170
 have HC := hide (must_any c tTry w i d HR0.out (by decide))
 rw [hm] at HC
 go_wp2_with fail
 refine cm HC.out ?_
 intro e wa hp
 obtain ⟨⟨va, rfl, rfl⟩, hrd, ha⟩ := hp
 clear HC
 have HRa := hide hrd
 have HAa := hide (HA0.out.next ha)
 clear hrd ha
 have HC := hide (block_any hF hN wa d i0 _ rfl (by rw [hb]; nofun) HRa.out)
 rw [hb] at HC
 go_wp2_with fail
 refine cm HC.out ?_
 intro e wb hp
 obtain ⟨⟨vb, rfl, hnb⟩, hrd, ha⟩ := hp
 clear HC
 have HRb := hide hrd
 have HAb := hide (HAa.out.next ha)
 obtain ⟨pb, rfl, hmb⟩ := (EV.mono hnb HAa.out.size).nv
 have HNb := hide hmb
 clear hnb hmb
 clear hrd ha
 have HC := hide (node_any 12 noText (.slice (some ⟨wb.heap.size, 0, none⟩) 1 1) (wb.alloc (.cells #[nPtr pb] 22)) ⟨_, _, _, rfl⟩)
 go_wp2_with fail
 refine cm HC.out ?_
 rintro e wn0 ⟨rfl, rfl⟩
 clear HC
 obtain ⟨m1, m2, m3⟩ := made HRb.out HAb.out (NAts.cons HNb.out NAts.nil) (by simp [maxLen]) #[nPtr pb] rfl 1 rfl 12 noText (wb.heap.size + 1) rfl
 obtain ⟨t0, ht0⟩ : ∃ t0 : Tr, t0 = .mk 12 noText 0 [b] := ⟨_, rfl⟩
 rw [← ht0] at m1
 have HKL : Hid (t0.kids.length = 1) := by
  show _ = _
  rw [ht0]; rfl
 have HT0 := hide ht0
 obtain ⟨p0, u0, ps0, hpe, hop⟩ := m1.opens
 have hpe2 : p0 = wb.heap.size + 1 := by simpa [nPtr] using hpe.symm
 rw [hpe2] at hop
 have HOP := hide hop
 have HRn := hide m2
 have HAn := hide m3
 clear m1 m2 m3 hop hpe ht0
 obtain ⟨wn, hwn⟩ : ∃ wn, wn = (wb.alloc (.cells #[nPtr pb] 22)).alloc (nodeObj 12 noText 0 (.slice (some ⟨wb.heap.size, 0, none⟩) 1 1)) := ⟨_, rfl⟩
 rw [← hwn] at HOP HRn HAn
 rw [← hpe2] at HOP
 rw [show (wb.alloc (.cells #[nPtr pb] 22)).heap.size = p0 by rw [hpe2]; simp, ← hwn]
 clear hwn hpe2
 have HC := hide (take_not c tCatch wn i1 d HRn.out hc)
 go_wp2_with fail
 refine cm HC.out ?_
 rintro e wc ⟨rfl, hb⟩
 clear HC
 have HRc := hide (HRn.out.later hb)
 have HAc := hide (HAn.out.next (Ap.of hb))
 replace HOP := hide (Open.later HOP.out (Ap.of hb) HLT.out)
 clear hb
 have HC := hide (take_yes c tFinally wc i1 d HRc.out hf (by decide))
 go_wp2_with fail
 refine cm HC.out ?_
 rintro e wf ⟨rfl, hrd, ha⟩
 clear HC
 have HRf := hide hrd
 have HAf := hide (HAc.out.next ha)
 replace HOP := hide (Open.later HOP.out (ha) HLT.out)
 clear hrd ha
 have HCF := hide (block_any hF hN wf.drew d (i1 + 1) _ rfl (by rw [hb2]; nofun) HRf.out.drew)
 rw [hb2] at HCF
 obtain ⟨hc3, hcf, hcl⟩ := HOP.out.cell
 obtain ⟨ua, uc, hue⟩ := HOP.out.shape
 subst hue
 go_wp2_with fail
 refine wp_region_any (by kernel_rfl) ?_
 change wpAny _ _ _ _ _ _ _ (World.drew _)
 refine wt 0 (nPtr p0) ?_
 refine wt 1 (nPtr p0) ?_
 refine wt 2 (nPtr p0) ?_
 refine wt 3 (.pointer (some ⟨p0, 3, none⟩)) ?_
 refine wt 5 (rPtr c) ?_
 refine wr2 4 6 (fun K hK => ?_) fun K hK => ?_
 ·
  go_simp; refine hK _ _ ?_; clear hK K; refine wr1 6 fun K hK => ?_; exact zbgb
 ·
  exact zbgb
theorem at_cbad (hc : fx c.l i1 = tCatch) (er : Int) (p : Nat) (hq : mustP c.l tOpen (i1 + 1) = .bad er p ∨ ∃ i2, mustP c.l tOpen (i1 + 1) = .ok () i2 ∧ (nameP c.l i2 = .bad er p ∨ ∃ s i3, nameP c.l i2 = .ok s i3 ∧ (mustP c.l tShut i3 = .bad er p ∨ ∃ i4, mustP c.l tShut i3 = .ok () i4 ∧ blockP c.l F d i4 = .bad er p))) : Calls Tryz.prog 170 #[rPtr c] w (PPost c w d (NV w.heap.size) (.bad er p)) := by
 have HQ := hide hq
 clear hq
 have HLO := hide h.base.size
 obtain ⟨i0', hi0, hz0, hz1, hz2⟩ := info_parts info22
 have HR0 := hide h
 have HA0 := hide (Ap.refl c.R w.heap.size w)
 have HLT := hide h.rlt
 clear h
 go_enter Tryz.func170, Tryz.ntmps170
 have HC := hide (must_any c tTry w i d HR0.out (by decide))
 rw [hm] at HC
 go_wp2_with fail
 refine cm HC.out ?_
 intro e wa hp
 obtain ⟨⟨va, rfl, rfl⟩, hrd, ha⟩ := hp
 clear HC
 have HRa := hide hrd
 have HAa := hide (HA0.out.next ha)
 clear hrd ha
 have HC := hide (block_any hF hN wa d i0 _ rfl (by rw [hb]; nofun) HRa.out)
 rw [hb] at HC
 go_wp2_with fail
 refine cm HC.out ?_
 intro e wb hp
 obtain ⟨⟨vb, rfl, hnb⟩, hrd, ha⟩ := hp
 clear HC
 have HRb := hide hrd
 have HAb := hide (HAa.out.next ha)
 obtain ⟨pb, rfl, hmb⟩ := (EV.mono hnb HAa.out.size).nv
 have HNb := hide hmb
 clear hnb hmb
 clear hrd ha
 have HC := hide (node_any 12 noText (.slice (some ⟨wb.heap.size, 0, none⟩) 1 1) (wb.alloc (.cells #[nPtr pb] 22)) ⟨_, _, _, rfl⟩)
 go_wp2_with fail
 refine cm HC.out ?_
 rintro e wn0 ⟨rfl, rfl⟩
 clear HC
 obtain ⟨m1, m2, m3⟩ := made HRb.out HAb.out (NAts.cons HNb.out NAts.nil) (by simp [maxLen]) #[nPtr pb] rfl 1 rfl 12 noText (wb.heap.size + 1) rfl
 obtain ⟨t0, ht0⟩ : ∃ t0 : Tr, t0 = .mk 12 noText 0 [b] := ⟨_, rfl⟩
 rw [← ht0] at m1
 have HKL : Hid (t0.kids.length = 1) := by
  show _ = _
  rw [ht0]; rfl
 have HT0 := hide ht0
 obtain ⟨p0, u0, ps0, hpe, hop⟩ := m1.opens
 have hpe2 : p0 = wb.heap.size + 1 := by simpa [nPtr] using hpe.symm
 rw [hpe2] at hop
 have HOP := hide hop
 have HRn := hide m2
 have HAn := hide m3
 clear m1 m2 m3 hop hpe ht0
 obtain ⟨wn, hwn⟩ : ∃ wn, wn = (wb.alloc (.cells #[nPtr pb] 22)).alloc (nodeObj 12 noText 0 (.slice (some ⟨wb.heap.size, 0, none⟩) 1 1)) := ⟨_, rfl⟩
 rw [← hwn] at HOP HRn HAn
 rw [← hpe2] at HOP
 rw [show (wb.alloc (.cells #[nPtr pb] 22)).heap.size = p0 by rw [hpe2]; simp, ← hwn]
 clear hwn hpe2
 have HC := hide (take_yes c tCatch wn i1 d HRn.out hc (by decide))
 go_wp2_with fail
 refine cm HC.out ?_
 rintro e wc ⟨rfl, hrd, ha⟩
 clear HC
 have HRc := hide hrd
 have HAc := hide (HAn.out.next ha)
 replace HOP := hide (Open.later HOP.out (ha) HLT.out)
 clear hrd ha
 have HC := hide (must_any c tOpen wc (i1 + 1) d HRc.out (by decide))
 rcases HQ.out with h2 | ⟨i2, h2, hq⟩
 ·
  rw [h2] at HC; go_wp2_with fail; refine cm HC.out ?_; intro e w' hp; obtain ⟨rfl, ha⟩ := hp; exact ⟨rfl, ppBad rfl (HAc.out.next ha)⟩
 clear HQ
 have HQ := hide hq
 clear hq
 rw [h2] at HC
 go_wp2_with fail
 refine cm HC.out ?_
 intro e wd hp
 obtain ⟨⟨vd, rfl, rfl⟩, hrd, ha⟩ := hp
 clear HC
 have HRd := hide hrd
 have HAd := hide (HAc.out.next ha)
 replace HOP := hide (Open.later HOP.out (ha) HLT.out)
 clear hrd ha
 have HC := hide (name_any c wd i2 d HRd.out)
 rcases HQ.out with h3 | ⟨s, i3, h3, hq⟩
 ·
  rw [h3] at HC; go_wp2_with fail; refine cm HC.out ?_; intro e w' hp; obtain ⟨rfl, ha⟩ := hp; exact ⟨rfl, ppBad rfl (HAd.out.next ha)⟩
 clear HQ
 have HQ := hide hq
 clear hq
 rw [h3] at HC
 go_wp2_with fail
 refine cm HC.out ?_
 intro e we hp
 obtain ⟨⟨ve, rfl, rfl⟩, hrd, ha⟩ := hp
 clear HC
 have HRe := hide hrd
 have HAe := hide (HAd.out.next ha)
 replace HOP := hide (Open.later HOP.out (ha) HLT.out)
 clear hrd ha
 have HC := hide (must_any c tShut we i3 d HRe.out (by decide))
 rcases HQ.out with h4 | ⟨i4, h4, h5⟩
 ·
  rw [h4] at HC; go_wp2_with fail; refine cm HC.out ?_; intro e w' hp; obtain ⟨rfl, ha⟩ := hp; exact ⟨rfl, ppBad rfl (HAe.out.next ha)⟩
 clear HQ
 rw [h4] at HC
 go_wp2_with fail
 refine cm HC.out ?_
 intro e wg1 hp
 obtain ⟨⟨vg1, rfl, rfl⟩, hrd, ha⟩ := hp
 clear HC
 have HRg1 := hide hrd
 have HAg1 := hide (HAe.out.next ha)
 replace HOP := hide (Open.later HOP.out (ha) HLT.out)
 clear hrd ha
 have HCC := hide (block_any hF hN wg1.drew d i4 _ rfl (by rw [h5]; nofun) HRg1.out.drew)
 rw [h5] at HCC
 obtain ⟨hc3, hcf, hcl⟩ := HOP.out.cell
 obtain ⟨ua, uc, hue⟩ := HOP.out.shape
 subst hue
 go_wp2_with fail
 refine wp_region_any (by kernel_rfl) ?_
 change wpAny _ _ _ _ _ _ _ (World.drew _)
 refine wt 0 (nPtr p0) ?_
 refine wt 1 (nPtr p0) ?_
 refine wt 2 (nPtr p0) ?_
 refine wt 3 (.pointer (some ⟨p0, 3, none⟩)) ?_
 refine wt 5 (.string s) ?_
 refine wt 6 (rPtr c) ?_
 refine wr2 4 7 (fun K hK => ?_) fun K hK => ?_
 ·
  go_simp; refine hK _ _ ?_; clear hK K; refine wr1 7 fun K hK => ?_; exact zbfx
 ·
  exact zbfx
theorem at_catch (hc : fx c.l i1 = tCatch) (i2 : Nat) (h2 : mustP c.l tOpen (i1 + 1) = .ok () i2) (s : ByteArray) (i3 : Nat) (h3 : nameP c.l i2 = .ok s i3) (i4 : Nat) (h4 : mustP c.l tShut i3 = .ok () i4) (b2 : Tr) (i5 : Nat) (h5 : blockP c.l F d i4 = .ok b2 i5) (hf : fx c.l i5 ≠ tFinally) : Calls Tryz.prog 170 #[rPtr c] w (PPost c w d (NV w.heap.size) (.ok (.mk 12 noText 0 [b, .mk 13 s 0 [b2]]) i5)) := by
 have HLO := hide h.base.size
 obtain ⟨i0', hi0, hz0, hz1, hz2⟩ := info_parts info22
 have HR0 := hide h
 have HA0 := hide (Ap.refl c.R w.heap.size w)
 have HLT := hide h.rlt
 clear h
 go_enter Tryz.func170, Tryz.ntmps170
 have HC := hide (must_any c tTry w i d HR0.out (by decide))
 rw [hm] at HC
 go_wp2_with fail
 refine cm HC.out ?_
 intro e wa hp
 obtain ⟨⟨va, rfl, rfl⟩, hrd, ha⟩ := hp
 clear HC
 have HRa := hide hrd
 have HAa := hide (HA0.out.next ha)
 clear hrd ha
 have HC := hide (block_any hF hN wa d i0 _ rfl (by rw [hb]; nofun) HRa.out)
 rw [hb] at HC
 go_wp2_with fail
 refine cm HC.out ?_
 intro e wb hp
 obtain ⟨⟨vb, rfl, hnb⟩, hrd, ha⟩ := hp
 clear HC
 have HRb := hide hrd
 have HAb := hide (HAa.out.next ha)
 obtain ⟨pb, rfl, hmb⟩ := (EV.mono hnb HAa.out.size).nv
 have HNb := hide hmb
 clear hnb hmb
 clear hrd ha
 have HC := hide (node_any 12 noText (.slice (some ⟨wb.heap.size, 0, none⟩) 1 1) (wb.alloc (.cells #[nPtr pb] 22)) ⟨_, _, _, rfl⟩)
 go_wp2_with fail
 refine cm HC.out ?_
 rintro e wn0 ⟨rfl, rfl⟩
 clear HC
 obtain ⟨m1, m2, m3⟩ := made HRb.out HAb.out (NAts.cons HNb.out NAts.nil) (by simp [maxLen]) #[nPtr pb] rfl 1 rfl 12 noText (wb.heap.size + 1) rfl
 obtain ⟨t0, ht0⟩ : ∃ t0 : Tr, t0 = .mk 12 noText 0 [b] := ⟨_, rfl⟩
 rw [← ht0] at m1
 have HKL : Hid (t0.kids.length = 1) := by
  show _ = _
  rw [ht0]; rfl
 have HT0 := hide ht0
 obtain ⟨p0, u0, ps0, hpe, hop⟩ := m1.opens
 have hpe2 : p0 = wb.heap.size + 1 := by simpa [nPtr] using hpe.symm
 rw [hpe2] at hop
 have HOP := hide hop
 have HRn := hide m2
 have HAn := hide m3
 clear m1 m2 m3 hop hpe ht0
 obtain ⟨wn, hwn⟩ : ∃ wn, wn = (wb.alloc (.cells #[nPtr pb] 22)).alloc (nodeObj 12 noText 0 (.slice (some ⟨wb.heap.size, 0, none⟩) 1 1)) := ⟨_, rfl⟩
 rw [← hwn] at HOP HRn HAn
 rw [← hpe2] at HOP
 rw [show (wb.alloc (.cells #[nPtr pb] 22)).heap.size = p0 by rw [hpe2]; simp, ← hwn]
 clear hwn hpe2
 have HC := hide (take_yes c tCatch wn i1 d HRn.out hc (by decide))
 go_wp2_with fail
 refine cm HC.out ?_
 rintro e wc ⟨rfl, hrd, ha⟩
 clear HC
 have HRc := hide hrd
 have HAc := hide (HAn.out.next ha)
 replace HOP := hide (Open.later HOP.out (ha) HLT.out)
 clear hrd ha
 have HC := hide (must_any c tOpen wc (i1 + 1) d HRc.out (by decide))
 rw [h2] at HC
 go_wp2_with fail
 refine cm HC.out ?_
 intro e wd hp
 obtain ⟨⟨vd, rfl, rfl⟩, hrd, ha⟩ := hp
 clear HC
 have HRd := hide hrd
 have HAd := hide (HAc.out.next ha)
 replace HOP := hide (Open.later HOP.out (ha) HLT.out)
 clear hrd ha
 have HC := hide (name_any c wd i2 d HRd.out)
 rw [h3] at HC
 go_wp2_with fail
 refine cm HC.out ?_
 intro e we hp
 obtain ⟨⟨ve, rfl, rfl⟩, hrd, ha⟩ := hp
 clear HC
 have HRe := hide hrd
 have HAe := hide (HAd.out.next ha)
 replace HOP := hide (Open.later HOP.out (ha) HLT.out)
 clear hrd ha
 have HC := hide (must_any c tShut we i3 d HRe.out (by decide))
 rw [h4] at HC
 go_wp2_with fail
 refine cm HC.out ?_
 intro e wg1 hp
 obtain ⟨⟨vg1, rfl, rfl⟩, hrd, ha⟩ := hp
 clear HC
 have HRg1 := hide hrd
 have HAg1 := hide (HAe.out.next ha)
 replace HOP := hide (Open.later HOP.out (ha) HLT.out)
 clear hrd ha
 have HCC := hide (block_any hF hN wg1.drew d i4 _ rfl (by rw [h5]; nofun) HRg1.out.drew)
 rw [h5] at HCC
 obtain ⟨hc3, hcf, hcl⟩ := HOP.out.cell
 obtain ⟨ua, uc, hue⟩ := HOP.out.shape
 subst hue
 go_wp2_with fail
 refine via2 (H := fun wc pc => Ap c.R wg1.heap.size wg1 wc ∧ Rdr c wc i5 d ∧ NAt (From wg1.heap.size) wc b2 pc) (G := ?G2) (fun CONT => ?_) ?_
 rotate_left
 ·
  exact zbaa
 intro wc pc hY
 obtain ⟨ha0, hrd, hmc⟩ := hY
 have HAc := hide (HAg1.out.next ha0)
 have HA0c := hide ha0
 have HRc := hide hrd
 have HOc := hide (Open.later HOP.out ha0 HLT.out)
 have HNc := hide hmc
 obtain ⟨gc3, gcf, gcl⟩ := HOc.out.cell
 have gcl1 : p0 < wc.heap.size + 1 := by omega
 have gcl2 : p0 < wc.heap.size + 1 + 1 := by omega
 clear hrd ha0 hmc
 obtain ⟨n1, n2, n3⟩ := made (w := wg1) HRc.out HA0c.out (NAts.cons HNc.out NAts.nil) (by simp [maxLen]) #[nPtr pc] rfl 1 rfl 13 s (wc.heap.size + 1) rfl
 have hbd : Below wc.heap.size wc ((wc.alloc (.cells #[nPtr pc] 22)).alloc (nodeObj 13 s 0 (.slice (some ⟨wc.heap.size, 0, none⟩) 1 1))) := ((Below.refl _ _).alloc (Nat.le_refl _) _).alloc (by simp) _
 obtain ⟨wd, hwd⟩ : ∃ wd, wd = (wc.alloc (.cells #[nPtr pc] 22)).alloc (nodeObj 13 s 0 (.slice (some ⟨wc.heap.size, 0, none⟩) 1 1)) := ⟨_, rfl⟩
 have hq : (wc.alloc (.cells #[nPtr pc] 22)).heap.size = wc.heap.size + 1 := by simp
 obtain ⟨q, hqq⟩ : ∃ q, q = wc.heap.size + 1 := ⟨_, rfl⟩
 obtain ⟨pq, hpq, hnq⟩ := n1.nv
 have hpe : pq = wc.heap.size + 1 := by simpa [nPtr] using hpq.symm
 subst hpe
 have hws : wd.heap.size = q + 1 := by rw [hwd, hqq]; simp
 rw [← hwd] at hnq n2 n3 hbd
 try rw [hq]
 rw [← hqq] at hnq
 try rw [← hqq]
 try rw [← hwd]
 have HOd := hide (Open.later HOc.out (Ap.of hbd) HLT.out)
 have HAd := hide (HAc.out.next (Ap.of hbd))
 have HRd := hide n2
 have HNd := hide (Open.apart HOP.out HAg1.out.size n3 HLT.out (NAts.cons hnq NAts.nil))
 obtain ⟨ec3, ecf, ecl⟩ := HOd.out.cell
 clear n1 n2 n3 hbd hnq hpq hwd hqq hq gc3 gcf gcl gcl1 gcl2
 have hlen := NAts.length _ _ HOd.out.kids
 have hown := HOd.out.row
 rw [hlen] at hown
 have HOWN := hide hown
 have hsz := HAd.out.size
 have hkl : t0.kids.length ≤ 3 := by rw [HKL.out]; decide
 clear hown hlen
 refine wr1 11 fun K hK => ?_
 refine step_append_lies _ rfl _ _ 46 rfl w.heap.size 22 i0' (.pointer none) 1 8 Tryz.underlying46 hi0 hz0 hz1 hz2 rfl (by decide) _ _ _ rfl (HOWN.out.alloc _) ⟨q + 1, 0, none⟩ 1 1 [nPtr q] rfl rfl (one_cells wd q _ hws) (one_one q) (by decide) (by unfold maxLen; omega) (by omega) (by simp; omega) (wd.heap.size + 1) (by simp) ?_
 clear hws
 intro g cap w3 hown3 hgr3 hg3 _
 refine hK _ _ ?_
 clear hK K
 have HP1 := hide (push1 HOd.out HNd.out HRd.out HAd.out HLO.out hown3 hgr3 hg3)
 have hp3 : w3.cell? ⟨p0, 3, none⟩ = wd.cell? ⟨p0, 3, none⟩ ∧ w3.frozen? ⟨p0, 3, none⟩ = wd.frozen? ⟨p0, 3, none⟩ := by
  exact zbbr
 obtain ⟨hp3c, hp3f⟩ := hp3
 rw [ec3] at hp3c
 rw [ecf 3] at hp3f
 clear hown3 hgr3 hg3
 refine wt 12 (nPtr p0) ?_
 refine wt 13 (.pointer (some ⟨p0, 3, none⟩)) ?_
 refine wr1 14 fun K hK => ?_
 go_simp
 refine hK _ _ ?_
 clear hK K hp3c hp3f ec3 ecf ecl HOWN
 refine wpAny_done (by kernel_rfl) ?_ _
 go_simp
 obtain ⟨m1, m2, m3⟩ := unhide HP1
 obtain ⟨t0x, ht2⟩ : ∃ tq : Tr, tq = .mk t0.kd t0.tx t0.n (t0.kids ++ [.mk 13 s 0 [b2]]) := ⟨_, rfl⟩
 rw [← ht2] at m1
 have HKLt0x : Hid (t0x.kids.length = t0.kids.length + 1) := by
  show _ = _
  rw [ht2]; simp [Tr.kids]
 have HTt0x := hide ht2
 obtain ⟨pz, uz, psz, hpz, hopz⟩ := m1.opens
 have hpz2 : pz = p0 := by simpa [nPtr] using hpz.symm
 rw [hpz2] at hopz
 obtain ⟨w4, hw4⟩ : ∃ w4, w4 = (w3.setCell ⟨p0, 3, none⟩ (.slice (some ⟨g, 0, none⟩) (t0.kids.length + 1) cap)) := ⟨_, rfl⟩
 rw [← hw4] at hopz m2 m3
 rw [← hw4]
 clear HOP
 have HOP := hide hopz
 have HR4C := hide m2
 have HA4C := hide m3
 clear m1 m2 m3 hopz hpz hw4 hpz2 ht2 HP1 HCC
 have HC := hide (take_not c tFinally w4 i5 d HR4C.out hf)
 go_wp2_with fail
 refine cm HC.out ?_
 rintro e wz ⟨rfl, hb⟩
 clear HC
 have HRz := hide (HR4C.out.later hb)
 have HAz := hide (HA4C.out.next (Ap.of hb))
 replace HOP := hide (Open.later HOP.out (Ap.of hb) HLT.out)
 clear hb
 obtain ⟨hc3, hcf, hcl⟩ := HOP.out.cell
 obtain ⟨ua, uc, hue⟩ := HOP.out.shape
 subst hue
 have hk2 : t0x.kids.length = 2 := by rw [HKLt0x.out, HKL.out]
 rw [hk2] at hc3
 clear hk2
 go_wp2_with fail
 go_ret
 have e0 := unhide HT0
 have e1 := unhide HTt0x
 have hnv := HOP.out.ev.nv
 rw [e1, e0] at hnv
 exact ppOk rfl hnv HRz.out HAz.out
end
end Go.Proofs.YtoimgcjbcbhclaaGreatDoor
