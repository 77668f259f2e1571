/-
  The document's parser: if, with an else and without.
-/
import Derived.Test.YtoimgcjbcbhclaaGreatDoorRn25
namespace Go.Proofs.YtoimgcjbcbhclaaGreatDoor.Old
open Go.RowKit
set_option maxRecDepth 100000 in
set_option maxHeartbeats 4000000 in
theorem rst_if {c : PC} {F : Fns} (hF : RCt c F) (hN : ∃ k, FNx c.l k F) (hK : FOk F) (w : World) (d i : Nat) (r : PR Tr) (hd : d ≤ 30) (hf : fx c.l i = tIf) (hs : r = (zv4 c.l F d (i + 1)).bind fun v i1 => (zq2 c.l F.st d i1).bind fun s i2 => if fx c.l i2 = zg0 then (zq2 c.l F.st d (i2 + 1)).bind fun s2 i3 => .ok (.mk 7 zzx 0 [v, s, s2]) i3 else .ok (.mk 7 zzx 0 [v, s]) i2) (ho : r ≠ .out) (h : Ps c w i 0 (-1)) :
  Calls Tryz.prog 111 #[pPtr c, .int .i64 (d : Int)] w (zj3 c w (NV w.heap.size) ZN r) := by
 have HLT := qh h.rlt
 have HLO := qh h.base.size
 have HO := qh ho
 have HF := qh hF
 have HNN := qh hN
 have HKK := qh hK
 have hdd : decide ((30 : Int) < (d : Int)) = false := decide_eq_false (by omega)
 have n0 : ¬ fx c.l i = zz4 := by rw [hf]; decide
 have n1 : ¬ fx c.l i = zz9 := by rw [hf]; decide
 have n2 : ¬ fx c.l i = zzw := by rw [hf]; decide
 have HS0 := qh (Stn.new h)
 have hc := zzy c (w.alloc nd0) i zz4 (by decide) HS0.out.ps
 rw [decide_eq_false n0] at hc
 have HC := qh hc
 clear hc
 clear h
 go_enter Tryz.func111, Tryz.ntmps111
 go_wp2_with fail
 refine cm HC.out ?_
 rintro e w1 ⟨rfl, hb⟩
 have HS1 := qh (HS0.out.below hb)
 clear hb HC HS0
 have HC := qh (zz1 c w1 i zz9 (by decide) n1 HS1.out.ps)
 go_wp2_with fail
 refine cm HC.out ?_
 rintro e w2 ⟨rfl, hb⟩
 have HS2 := qh (HS1.out.below hb)
 clear hb HC HS1
 have HC := qh (zz1 c w2 i zzw (by decide) n2 HS2.out.ps)
 go_wp2_with fail
 refine cm HC.out ?_
 rintro e w3 ⟨rfl, hb⟩
 have HS3 := qh (HS2.out.below hb)
 clear hb HC HS2
 have HC := qh (zxq c w3 i tIf (by decide) hf HS3.out.ps)
 go_wp2_with fail
 refine cm HC.out ?_
 rintro e w4 ⟨rfl, hp, ha⟩
 have HS4 := qh (HS3.out.on HLT.out hp ha)
 clear hp ha HC HS3
 have HQ := qh hs
 clear ho hs hF hN hK
 obtain ⟨i0, hi0, hz0, hz1, hz2⟩ := info_parts zk0
 have HK2 := qh (HS4.out.kind HLO.out 7)
 have hPN : c.P < w.heap.size := zzq HLT
 have nb := HS4.out.nd
 obtain ⟨c0, c1, c2, c3, cf⟩ := zzj nb
 have cf0 := cf 0
 have cf3 := cf 3
 have hnl := zzz nb
 clear nb
 cases hr : zv4 c.l F d (i + 1) with
 | out => rw [hr] at HQ; exact absurd HQ.out HO.out
 | bad er pl =>
  have HC := qh (zbv HF.out _ d (i + 1) _ hd hr.symm (by nofun) HK2.out.ps); rw [hr] at HQ; have hq : r = .bad er pl := zzq HQ; subst hq; clear hr HQ; go_wp2_with fail; refine cm HC.out ?_
  rintro e wh ⟨⟨v, rfl, q, rfl⟩, ⟨j, hp1⟩, he, ha⟩; have nb0 := (ha.block _ (zzz HK2.out.nd) (by have := zzq HLT; omega)).trans HK2.out.nd
  have hA0 := HK2.out.ap.next ha; have HC2 := qh (zbj c wh j er pl (d : Int) he hp1); have HNB := qh nb0; have HA0 := qh hA0; clear hp1 ha HC nb0 hA0 c0 c1 c2 c3 cf cf0 cf3 hnl; go_wp2_with fail
  refine cm HC2.out ?_; rintro e wv ⟨⟨v, rfl, q2, rfl⟩, ⟨j2, hp2⟩, _, ha2⟩; have nb := (ha2.block _ (zzz HNB.out) (by have := zzq HLT; omega)).trans HNB.out
  obtain ⟨c0, c1, c2, c3, cf⟩ := zzj nb; have cf3 := cf 3; have hnl := zzz nb; have hA := HA0.out.next ha2
  have HB : Hid (Below w.heap.size wv ((wv.setCell ⟨w.heap.size, 3, none⟩ (.slice (some ⟨wv.heap.size, 0, none⟩) 2 2)).alloc (.cells #[nPtr q, nPtr q2] 22))) := ((Below.refl w.heap.size wv).setCell (p := ⟨w.heap.size, 3, none⟩) qv _).alloc (by simp; omega) _
  have HA := qh (hA.trans (Ap.of HB.out)); have HP := qh (hp2.ap HB.out HLO.out); clear hp2 ha2 HC2 nb hA; have HC3 := qh (zv3 c _ j2 er pl he zg0 HP.out); go_wp2_with fail; refine cm HC3.out ?_
  rintro e wz ⟨rfl, hb⟩; have HA9 := qh (HA.out.next (Ap.of hb)); have HP9 := qh (HP.out.later hb); clear hb HC3 c0 c1 c2 c3 cf cf3 hnl; go_wp2_with fail; go_ret; exact ⟨⟨_, rfl, _, rfl⟩, ⟨j2, HP9.out⟩, he, HA9.out⟩
 | ok t j =>
  have HC := qh (zbv HF.out _ d (i + 1) _ hd hr.symm (by nofun) HK2.out.ps); rw [hr] at HQ
  have HQ2 : Hid (r = (zq2 c.l F.st d j).bind fun s i2 => if fx c.l i2 = zg0 then (zq2 c.l F.st d (i2 + 1)).bind fun s2 i3 => .ok (.mk 7 zzx 0 [t, s, s2]) i3 else .ok (.mk 7 zzx 0 [t, s]) i2) := zzq HQ
  clear hr HQ; go_wp2_with fail; refine cm HC.out ?_; rintro e wh ⟨⟨v, rfl, q, rfl, hn⟩, hp1, ha⟩; have HNB := qh ((ha.block _ (zzz HK2.out.nd) (by have := zzq HLT; omega)).trans HK2.out.nd)
  have HA0 := qh (HK2.out.ap.next ha); have HP0 := qh hp1; have HN0 := qh hn; have HZ0 := qh ha.size; clear hp1 ha HC hn c0 c1 c2 c3 cf cf0 cf3 hnl
  cases hr : zq2 c.l F.st d j with
  | out => rw [hr] at HQ2; exact absurd HQ2.out HO.out
  | bad er pl =>
   have HC2 := qh (zj9 HF.out wh d j _ hd hr.symm (by nofun) HP0.out); rw [hr] at HQ2; have hq : r = .bad er pl := zzq HQ2; subst hq; clear hr HQ2; go_wp2_with fail; refine cm HC2.out ?_
   rintro e wv ⟨⟨v, rfl, q2, rfl⟩, ⟨j2, hp2⟩, he, ha2⟩; have nb := (ha2.block _ (zzz HNB.out) (by have := zzq HLT; omega)).trans HNB.out
   obtain ⟨c0, c1, c2, c3, cf⟩ := zzj nb; have cf3 := cf 3; have hnl := zzz nb; have hA := HA0.out.next ha2
   have HB : Hid (Below w.heap.size wv ((wv.setCell ⟨w.heap.size, 3, none⟩ (.slice (some ⟨wv.heap.size, 0, none⟩) 2 2)).alloc (.cells #[nPtr q, nPtr q2] 22))) := ((Below.refl w.heap.size wv).setCell (p := ⟨w.heap.size, 3, none⟩) qv _).alloc (by simp; omega) _
   have HA := qh (hA.trans (Ap.of HB.out)); have HP := qh (hp2.ap HB.out HLO.out); clear hp2 ha2 HC2 nb hA; have HC3 := qh (zv3 c _ j2 er pl he zg0 HP.out); go_wp2_with fail; refine cm HC3.out ?_
   rintro e wz ⟨rfl, hb⟩; have HA9 := qh (HA.out.next (Ap.of hb)); have HP9 := qh (HP.out.later hb); clear hb HC3 c0 c1 c2 c3 cf cf3 hnl; go_wp2_with fail; go_ret; exact ⟨⟨_, rfl, _, rfl⟩, ⟨j2, HP9.out⟩, he, HA9.out⟩
  | ok s j2 =>
   have HC2 := qh (zj9 HF.out wh d j _ hd hr.symm (by nofun) HP0.out); rw [hr] at HQ2
   have HQ3 : Hid (r = if fx c.l j2 = zg0 then (zq2 c.l F.st d (j2 + 1)).bind fun s2 i3 => .ok (.mk 7 zzx 0 [t, s, s2]) i3 else .ok (.mk 7 zzx 0 [t, s]) j2) := zzq HQ2; clear hr HQ2; go_wp2_with fail
   refine cm HC2.out ?_; rintro e wv ⟨⟨v, rfl, q2, rfl, hn2⟩, hp2, ha2⟩; have nb := (ha2.block _ (zzz HNB.out) (by have := zzq HLT; omega)).trans HNB.out
   obtain ⟨c0, c1, c2, c3, cf⟩ := zzj nb; have cf3 := cf 3; have hnl := zzz nb; have hA := HA0.out.next ha2
   have HB : Hid (Below w.heap.size wv ((wv.setCell ⟨w.heap.size, 3, none⟩ (.slice (some ⟨wv.heap.size, 0, none⟩) 2 2)).alloc (.cells #[nPtr q, nPtr q2] 22))) := ((Below.refl w.heap.size wv).setCell (p := ⟨w.heap.size, 3, none⟩) qv _).alloc (by simp; omega) _
   have HA := qh (hA.trans (Ap.of HB.out)); have HP := qh (hp2.ap HB.out HLO.out); have HZW := qh (zzz HK2.out.nd)
   have n1' := zb2 (NV.later ⟨q, rfl, HN0.out⟩ ha2 (by have h1 := zzq HLT; have h2 := zzq HZW; omega))
   have n2' := NAt.mono (J := fun b => _ ≤ b) (fun b hb _ => Nat.le_trans HZ0.out hb) _ _ hn2
   have HOP : Hid (Open w.heap.size ((wv.setCell ⟨w.heap.size, 3, none⟩ (.slice (some ⟨wv.heap.size, 0, none⟩) 2 2)).alloc (.cells #[nPtr q, nPtr q2] 22)) (.mk 7 zzx 0 [t, s]) w.heap.size (.slice (some ⟨wv.heap.size, 0, none⟩) 2 2) [q, q2]) := zm0 qv HZW.out (set1 wv w.heap.size _) (by simp) (Nat.le_trans HZ0.out ha2.size) (by rw [zz8 nb]; rfl) (NAts.cons n1' (NAts.cons n2' NAts.nil)) rfl #[nPtr q, nPtr q2] rfl (by simp [maxLen])
   clear hp2 ha2 HC2 nb hA hn2 n1' n2'
   by_cases hx : fx c.l j2 = zg0
   ·
    rw [if_pos hx] at HQ3; have HC3 := qh (zxq c _ j2 zg0 (by decide) hx HP.out); clear hx; go_wp2_with fail; refine cm HC3.out ?_; rintro e w6 ⟨rfl, hp6, ha6⟩; have HP6 := qh hp6
    have HA6 := qh (HA.out.next ha6); have HO6 := qh (HOP.out.stay ha6 HLT.out); clear hp6 ha6 HC3 c0 c1 c2 c3 cf cf3 hnl HOP HA HP; obtain ⟨hc3, hcf, hcl⟩ := HO6.out.cell
    cases hr : zq2 c.l F.st d (j2 + 1) with
    | out => rw [hr] at HQ3; exact absurd HQ3.out HO.out
    | bad er pl =>
     have HC := qh (zj9 HF.out w6.drew d (j2 + 1) _ hd hr.symm (by nofun) HP6.out.drew); rw [hr] at HQ3; have hq : r = .bad er pl := zzq HQ3; subst hq; clear hr HQ3; go_wp2_with fail
     refine wp_region_any (by kernel_rfl) ?_; change wpAny _ _ _ _ _ _ _ (World.drew _); refine wt 0 (nPtr w.heap.size) ?_; refine wt 1 (nPtr w.heap.size) ?_; refine wt 2 (nPtr w.heap.size) ?_
     refine wt 3 (.pointer (some ⟨w.heap.size, 3, none⟩)) ?_; refine wt 5 (pPtr c) ?_; refine wt 6 (.int .i64 (d : Int)) ?_; refine wr2 4 7 (fun K hK => ?_) fun K hK => ?_
     ·
      go_simp; refine hK _ _ ?_; clear hK K; refine wr1 7 fun K hK => ?_; go_simp; refine cm HC.out ?_; rintro e wc ⟨⟨vc, rfl, pc, rfl⟩, ⟨jc, hpc⟩, he, ha⟩; have HAc := qh (HA6.out.drew.next ha); have HPc := qh hpc
      have HOc := qh (HO6.out.stay (((Ap.refl c.P w6.heap.size w6).drew).next ha) HLT.out); obtain ⟨gc3, gcf, gcl⟩ := HOc.out.cell; clear ha hpc; refine hK _ _ ?_; clear hK K; refine wr1 8 fun K hK => ?_; go_simp
      refine hK _ _ ?_; clear hK K; have hown := HOc.out.row; have HOWN := qh hown; have hsz := HAc.out.size; clear hown; refine wr1 9 fun K hK => ?_
      refine step_append_lies _ rfl _ _ 46 rfl w.heap.size 22 i0 (.pointer none) 1 8 Tryz.underlying46 hi0 hz0 hz1 hz2 rfl (by decide) _ _ _ rfl (HOWN.out.alloc _) ⟨wc.heap.size, 0, none⟩ 1 1 [nPtr pc] rfl rfl (zq1 wc pc _ rfl) (zxv pc) (by decide) (by simp [maxLen]) (by simp) (by simp; omega) (wc.heap.size + 1) (by simp) ?_
      intro g cap w3 hown3 hgr3 hg3 _; refine hK _ _ ?_; clear hK K
      have HBW : ∀ v, Hid (Below w.heap.size wc (w3.setCell ⟨w.heap.size, 3, none⟩ v)) := fun v => HOc.out.grows ((Below.refl _ wc).alloc hsz _) (by simp; omega) hgr3
      have hp3 : w3.cell? ⟨w.heap.size, 3, none⟩ = wc.cell? ⟨w.heap.size, 3, none⟩ ∧ w3.frozen? ⟨w.heap.size, 3, none⟩ = wc.frozen? ⟨w.heap.size, 3, none⟩ := by
       have hbb : w3.heap[w.heap.size]? = wc.heap[w.heap.size]? := (hgr3.block w.heap.size (by simp; omega) (fun e => HOc.out.own e.symm)).trans (Below.heap_alloc wc _ w.heap.size gcl)
       exact ⟨World.cell?_of_block (w := wc) hbb, World.frozen?_of_block (w := wc) hbb⟩
      obtain ⟨hp3c, hp3f⟩ := hp3; rw [gc3] at hp3c; rw [gcf 3] at hp3f; clear hown3 hgr3 hg3; refine wt 10 (nPtr w.heap.size) ?_; refine wt 11 (.pointer (some ⟨w.heap.size, 3, none⟩)) ?_; refine wr1 12 fun K hK => ?_
      go_simp; refine hK _ _ ?_; clear hK K hp3c hp3f gc3 gcf gcl HOWN hcf hc3 hcl; refine wpAny_done (by kernel_rfl) ?_ _; go_simp; go_wp2_with fail; go_ret
      exact ⟨⟨_, rfl, _, rfl⟩, ⟨jc, HPc.out.ap (zzq (HBW _)) HLO.out⟩, he, HAc.out.trans (Ap.of (zzq (HBW _)))⟩
     ·
      go_simp; refine cm HC.out ?_; rintro e wc ⟨⟨vc, rfl, pc, rfl⟩, ⟨jc, hpc⟩, he, ha⟩; have HAc := qh (HA6.out.drew.next ha); have HPc := qh hpc
      have HOc := qh (HO6.out.stay (((Ap.refl c.P w6.heap.size w6).drew).next ha) HLT.out); obtain ⟨gc3, gcf, gcl⟩ := HOc.out.cell; clear ha hpc; refine hK _ _ ?_; clear hK K
      refine wr2 4 8 (fun K hK => ?_) fun K hK => ?_
      ·
       go_simp; refine hK _ _ ?_; clear hK K; refine wr1 8 fun K hK => ?_; go_simp; refine hK _ _ ?_; clear hK K; have hown := HOc.out.row; have HOWN := qh hown; have hsz := HAc.out.size; clear hown
       refine wr1 9 fun K hK => ?_
       refine step_append_lies _ rfl _ _ 46 rfl w.heap.size 22 i0 (.pointer none) 1 8 Tryz.underlying46 hi0 hz0 hz1 hz2 rfl (by decide) _ _ _ rfl (HOWN.out.alloc _) ⟨wc.heap.size, 0, none⟩ 1 1 [nPtr pc] rfl rfl (zq1 wc pc _ rfl) (zxv pc) (by decide) (by simp [maxLen]) (by simp) (by simp; omega) (wc.heap.size + 1) (by simp) ?_
       intro g cap w3 hown3 hgr3 hg3 _; refine hK _ _ ?_; clear hK K
       have HBW : ∀ v, Hid (Below w.heap.size wc (w3.setCell ⟨w.heap.size, 3, none⟩ v)) := fun v => HOc.out.grows ((Below.refl _ wc).alloc hsz _) (by simp; omega) hgr3
       have hp3 : w3.cell? ⟨w.heap.size, 3, none⟩ = wc.cell? ⟨w.heap.size, 3, none⟩ ∧ w3.frozen? ⟨w.heap.size, 3, none⟩ = wc.frozen? ⟨w.heap.size, 3, none⟩ := by
        have hbb : w3.heap[w.heap.size]? = wc.heap[w.heap.size]? := (hgr3.block w.heap.size (by simp; omega) (fun e => HOc.out.own e.symm)).trans (Below.heap_alloc wc _ w.heap.size gcl)
        exact ⟨World.cell?_of_block (w := wc) hbb, World.frozen?_of_block (w := wc) hbb⟩
       obtain ⟨hp3c, hp3f⟩ := hp3; rw [gc3] at hp3c; rw [gcf 3] at hp3f; clear hown3 hgr3 hg3; refine wt 10 (nPtr w.heap.size) ?_; refine wt 11 (.pointer (some ⟨w.heap.size, 3, none⟩)) ?_; refine wr1 12 fun K hK => ?_
       go_simp; refine hK _ _ ?_; clear hK K hp3c hp3f gc3 gcf gcl HOWN hcf hc3 hcl; refine wpAny_done (by kernel_rfl) ?_ _; go_simp; go_wp2_with fail; go_ret
       exact ⟨⟨_, rfl, _, rfl⟩, ⟨jc, HPc.out.ap (zzq (HBW _)) HLO.out⟩, he, HAc.out.trans (Ap.of (zzq (HBW _)))⟩
      ·
       go_simp; refine hK _ _ ?_; clear hK K; refine wr1 4 fun K hK => ?_; go_simp; refine hK _ _ ?_; clear hK K; have hown := HOc.out.row; have HOWN := qh hown; have hsz := HAc.out.size; clear hown
       refine wr1 9 fun K hK => ?_
       refine step_append_lies _ rfl _ _ 46 rfl w.heap.size 22 i0 (.pointer none) 1 8 Tryz.underlying46 hi0 hz0 hz1 hz2 rfl (by decide) _ _ _ rfl (HOWN.out.alloc _) ⟨wc.heap.size, 0, none⟩ 1 1 [nPtr pc] rfl rfl (zq1 wc pc _ rfl) (zxv pc) (by decide) (by simp [maxLen]) (by simp) (by simp; omega) (wc.heap.size + 1) (by simp) ?_
       intro g cap w3 hown3 hgr3 hg3 _; refine hK _ _ ?_; clear hK K
       have HBW : ∀ v, Hid (Below w.heap.size wc (w3.setCell ⟨w.heap.size, 3, none⟩ v)) := fun v => HOc.out.grows ((Below.refl _ wc).alloc hsz _) (by simp; omega) hgr3
       have hp3 : w3.cell? ⟨w.heap.size, 3, none⟩ = wc.cell? ⟨w.heap.size, 3, none⟩ ∧ w3.frozen? ⟨w.heap.size, 3, none⟩ = wc.frozen? ⟨w.heap.size, 3, none⟩ := by
        have hbb : w3.heap[w.heap.size]? = wc.heap[w.heap.size]? := (hgr3.block w.heap.size (by simp; omega) (fun e => HOc.out.own e.symm)).trans (Below.heap_alloc wc _ w.heap.size gcl)
        exact ⟨World.cell?_of_block (w := wc) hbb, World.frozen?_of_block (w := wc) hbb⟩
       obtain ⟨hp3c, hp3f⟩ := hp3; rw [gc3] at hp3c; rw [gcf 3] at hp3f; clear hown3 hgr3 hg3; refine wt 10 (nPtr w.heap.size) ?_; refine wt 11 (.pointer (some ⟨w.heap.size, 3, none⟩)) ?_; refine wr1 12 fun K hK => ?_
       go_simp; refine hK _ _ ?_; clear hK K hp3c hp3f gc3 gcf gcl HOWN hcf hc3 hcl; refine wpAny_done (by kernel_rfl) ?_ _; go_simp; go_wp2_with fail; go_ret
       exact ⟨⟨_, rfl, _, rfl⟩, ⟨jc, HPc.out.ap (zzq (HBW _)) HLO.out⟩, he, HAc.out.trans (Ap.of (zzq (HBW _)))⟩
    | ok s2 j3 =>
     have HC := qh (zj9 HF.out w6.drew d (j2 + 1) _ hd hr.symm (by nofun) HP6.out.drew); rw [hr] at HQ3; have hq : r = .ok (.mk 7 zzx 0 [t, s, s2]) j3 := zzq HQ3; subst hq; clear hr HQ3
     go_wp2_with fail; refine wp_region_any (by kernel_rfl) ?_; change wpAny _ _ _ _ _ _ _ (World.drew _); refine wt 0 (nPtr w.heap.size) ?_; refine wt 1 (nPtr w.heap.size) ?_; refine wt 2 (nPtr w.heap.size) ?_
     refine wt 3 (.pointer (some ⟨w.heap.size, 3, none⟩)) ?_; refine wt 5 (pPtr c) ?_; refine wt 6 (.int .i64 (d : Int)) ?_; refine wr2 4 7 (fun K hK => ?_) fun K hK => ?_
     ·
      go_simp; refine hK _ _ ?_; clear hK K; refine wr1 7 fun K hK => ?_; go_simp; refine cm HC.out ?_; rintro e wc ⟨⟨vc, rfl, pc, rfl, hnc⟩, hpc, ha⟩; have HAc := qh (HA6.out.drew.next ha); have HPc := qh hpc
      have HOc := qh (HO6.out.stay (((Ap.refl c.P w6.heap.size w6).drew).next ha) HLT.out); have HNc := qh (HO6.out.apart2 HA6.out.size qv (NAts.cons hnc NAts.nil)); obtain ⟨gc3, gcf, gcl⟩ := HOc.out.cell
      clear ha hpc hnc; refine hK _ _ ?_; clear hK K; refine wr1 8 fun K hK => ?_; go_simp; refine hK _ _ ?_; clear hK K; have hown := HOc.out.row; have HOWN := qh hown; have hsz := HAc.out.size; clear hown
      refine wr1 9 fun K hK => ?_
      refine step_append_lies _ rfl _ _ 46 rfl w.heap.size 22 i0 (.pointer none) 1 8 Tryz.underlying46 hi0 hz0 hz1 hz2 rfl (by decide) _ _ _ rfl (HOWN.out.alloc _) ⟨wc.heap.size, 0, none⟩ 1 1 [nPtr pc] rfl rfl (zq1 wc pc _ rfl) (zxv pc) (by decide) (by simp [maxLen]) (by simp) (by simp; omega) (wc.heap.size + 1) (by simp) ?_
      intro g cap w3 hown3 hgr3 hg3 _; refine hK _ _ ?_; clear hK K; have HEV := qh (Open.push2 HOc.out HNc.out rfl hown3 hgr3 hg3)
      have HBW : ∀ v, Hid (Below w.heap.size wc (w3.setCell ⟨w.heap.size, 3, none⟩ v)) := fun v => HOc.out.grows ((Below.refl _ wc).alloc hsz _) (by simp; omega) hgr3
      have hp3 : w3.cell? ⟨w.heap.size, 3, none⟩ = wc.cell? ⟨w.heap.size, 3, none⟩ ∧ w3.frozen? ⟨w.heap.size, 3, none⟩ = wc.frozen? ⟨w.heap.size, 3, none⟩ := by
       have hbb : w3.heap[w.heap.size]? = wc.heap[w.heap.size]? := (hgr3.block w.heap.size (by simp; omega) (fun e => HOc.out.own e.symm)).trans (Below.heap_alloc wc _ w.heap.size gcl)
       exact ⟨World.cell?_of_block (w := wc) hbb, World.frozen?_of_block (w := wc) hbb⟩
      obtain ⟨hp3c, hp3f⟩ := hp3; rw [gc3] at hp3c; rw [gcf 3] at hp3f; clear hown3 hgr3 hg3; refine wt 10 (nPtr w.heap.size) ?_; refine wt 11 (.pointer (some ⟨w.heap.size, 3, none⟩)) ?_; refine wr1 12 fun K hK => ?_
      go_simp; refine hK _ _ ?_; clear hK K hp3c hp3f gc3 gcf gcl HOWN hcf hc3 hcl; refine wpAny_done (by kernel_rfl) ?_ _; go_simp; go_wp2_with fail; go_ret
      exact ⟨⟨_, rfl, HEV.out.nv⟩, HPc.out.ap (zzq (HBW _)) HLO.out, HAc.out.trans (Ap.of (zzq (HBW _)))⟩
     ·
      go_simp; refine cm HC.out ?_; rintro e wc ⟨⟨vc, rfl, pc, rfl, hnc⟩, hpc, ha⟩; have HAc := qh (HA6.out.drew.next ha); have HPc := qh hpc
      have HOc := qh (HO6.out.stay (((Ap.refl c.P w6.heap.size w6).drew).next ha) HLT.out); have HNc := qh (HO6.out.apart2 HA6.out.size qv (NAts.cons hnc NAts.nil)); obtain ⟨gc3, gcf, gcl⟩ := HOc.out.cell
      clear ha hpc hnc; refine hK _ _ ?_; clear hK K; refine wr2 4 8 (fun K hK => ?_) fun K hK => ?_
      ·
       go_simp; refine hK _ _ ?_; clear hK K; refine wr1 8 fun K hK => ?_; go_simp; refine hK _ _ ?_; clear hK K; have hown := HOc.out.row; have HOWN := qh hown; have hsz := HAc.out.size; clear hown
       refine wr1 9 fun K hK => ?_
       refine step_append_lies _ rfl _ _ 46 rfl w.heap.size 22 i0 (.pointer none) 1 8 Tryz.underlying46 hi0 hz0 hz1 hz2 rfl (by decide) _ _ _ rfl (HOWN.out.alloc _) ⟨wc.heap.size, 0, none⟩ 1 1 [nPtr pc] rfl rfl (zq1 wc pc _ rfl) (zxv pc) (by decide) (by simp [maxLen]) (by simp) (by simp; omega) (wc.heap.size + 1) (by simp) ?_
       intro g cap w3 hown3 hgr3 hg3 _; refine hK _ _ ?_; clear hK K; have HEV := qh (Open.push2 HOc.out HNc.out rfl hown3 hgr3 hg3)
       have HBW : ∀ v, Hid (Below w.heap.size wc (w3.setCell ⟨w.heap.size, 3, none⟩ v)) := fun v => HOc.out.grows ((Below.refl _ wc).alloc hsz _) (by simp; omega) hgr3
       have hp3 : w3.cell? ⟨w.heap.size, 3, none⟩ = wc.cell? ⟨w.heap.size, 3, none⟩ ∧ w3.frozen? ⟨w.heap.size, 3, none⟩ = wc.frozen? ⟨w.heap.size, 3, none⟩ := by
        have hbb : w3.heap[w.heap.size]? = wc.heap[w.heap.size]? := (hgr3.block w.heap.size (by simp; omega) (fun e => HOc.out.own e.symm)).trans (Below.heap_alloc wc _ w.heap.size gcl)
        exact ⟨World.cell?_of_block (w := wc) hbb, World.frozen?_of_block (w := wc) hbb⟩
       obtain ⟨hp3c, hp3f⟩ := hp3; rw [gc3] at hp3c; rw [gcf 3] at hp3f; clear hown3 hgr3 hg3; refine wt 10 (nPtr w.heap.size) ?_; refine wt 11 (.pointer (some ⟨w.heap.size, 3, none⟩)) ?_; refine wr1 12 fun K hK => ?_
       go_simp; refine hK _ _ ?_; clear hK K hp3c hp3f gc3 gcf gcl HOWN hcf hc3 hcl; refine wpAny_done (by kernel_rfl) ?_ _; go_simp; go_wp2_with fail; go_ret
       exact ⟨⟨_, rfl, HEV.out.nv⟩, HPc.out.ap (zzq (HBW _)) HLO.out, HAc.out.trans (Ap.of (zzq (HBW _)))⟩
      ·
       go_simp; refine hK _ _ ?_; clear hK K; refine wr1 4 fun K hK => ?_; go_simp; refine hK _ _ ?_; clear hK K; have hown := HOc.out.row; have HOWN := qh hown; have hsz := HAc.out.size; clear hown
       refine wr1 9 fun K hK => ?_
       refine step_append_lies _ rfl _ _ 46 rfl w.heap.size 22 i0 (.pointer none) 1 8 Tryz.underlying46 hi0 hz0 hz1 hz2 rfl (by decide) _ _ _ rfl (HOWN.out.alloc _) ⟨wc.heap.size, 0, none⟩ 1 1 [nPtr pc] rfl rfl (zq1 wc pc _ rfl) (zxv pc) (by decide) (by simp [maxLen]) (by simp) (by simp; omega) (wc.heap.size + 1) (by simp) ?_
       intro g cap w3 hown3 hgr3 hg3 _; refine hK _ _ ?_; clear hK K; have HEV := qh (Open.push2 HOc.out HNc.out rfl hown3 hgr3 hg3)
       have HBW : ∀ v, Hid (Below w.heap.size wc (w3.setCell ⟨w.heap.size, 3, none⟩ v)) := fun v => HOc.out.grows ((Below.refl _ wc).alloc hsz _) (by simp; omega) hgr3
       have hp3 : w3.cell? ⟨w.heap.size, 3, none⟩ = wc.cell? ⟨w.heap.size, 3, none⟩ ∧ w3.frozen? ⟨w.heap.size, 3, none⟩ = wc.frozen? ⟨w.heap.size, 3, none⟩ := by
        have hbb : w3.heap[w.heap.size]? = wc.heap[w.heap.size]? := (hgr3.block w.heap.size (by simp; omega) (fun e => HOc.out.own e.symm)).trans (Below.heap_alloc wc _ w.heap.size gcl)
        exact ⟨World.cell?_of_block (w := wc) hbb, World.frozen?_of_block (w := wc) hbb⟩
       obtain ⟨hp3c, hp3f⟩ := hp3; rw [gc3] at hp3c; rw [gcf 3] at hp3f; clear hown3 hgr3 hg3; refine wt 10 (nPtr w.heap.size) ?_; refine wt 11 (.pointer (some ⟨w.heap.size, 3, none⟩)) ?_; refine wr1 12 fun K hK => ?_
       go_simp; refine hK _ _ ?_; clear hK K hp3c hp3f gc3 gcf gcl HOWN hcf hc3 hcl; refine wpAny_done (by kernel_rfl) ?_ _; go_simp; go_wp2_with fail; go_ret
       exact ⟨⟨_, rfl, HEV.out.nv⟩, HPc.out.ap (zzq (HBW _)) HLO.out, HAc.out.trans (Ap.of (zzq (HBW _)))⟩
   ·
    rw [if_neg hx] at HQ3; have hq : r = .ok (.mk 7 zzx 0 [t, s]) j2 := zzq HQ3; subst hq; have HC3 := qh (zz1 c _ j2 zg0 (by decide) hx HP.out); clear hx HQ3; go_wp2_with fail; refine cm HC3.out ?_
    rintro e wz ⟨rfl, hb⟩; have HA9 := qh (HA.out.next (Ap.of hb)); have HP9 := qh (HP.out.later hb); have HN9 := qh (HOP.out.stay (Ap.of hb) HLT.out).nv; clear hb HC3 c0 c1 c2 c3 cf cf3 hnl; go_wp2_with fail; go_ret
    exact ⟨⟨_, rfl, HN9.out⟩, HP9.out, HA9.out⟩
end Go.Proofs.YtoimgcjbcbhclaaGreatDoor.Old
namespace Go.Proofs.YtoimgcjbcbhclaaGreatDoor.Old
open Go.RowKit
structure Stx (c : PC) (w : World) (k : Int) (tx : ByteArray) (i : Nat) (W : World) : Prop where
 ps : Ps c W i 0 (-1)
 nd : W.heap[w.heap.size]? = some (zzk k tx 0 (.slice none 0 0))
 ap : Ap c.P w.heap.size w W
theorem Stx.below {c : PC} {w : World} {k : Int} {tx : ByteArray} {i : Nat} {W W' : World} (h : Stx c w k tx i W) (hb : Below W.heap.size W W') : Stx c w k tx i W' := ⟨h.ps.later hb, (hb.block _ (zzz h.nd)).trans h.nd, h.ap.next (Ap.of hb)⟩
theorem Stk.on {c : PC} {w : World} {k : Int} {i j : Nat} {W W' : World} (h : Stk c w k i W) (hP : c.P < w.heap.size) (hp : Ps c W' j 0 (-1)) (ha : Ap c.P W.heap.size W W') : Stk c w k j W' := ⟨hp, (ha.block _ (zzz h.nd) (by omega)).trans h.nd, h.ap.next ha⟩
theorem Stx.on {c : PC} {w : World} {k : Int} {tx : ByteArray} {i j : Nat} {W W' : World} (h : Stx c w k tx i W) (hP : c.P < w.heap.size) (hp : Ps c W' j 0 (-1)) (ha : Ap c.P W.heap.size W W') : Stx c w k tx j W' := ⟨hp, (ha.block _ (zzz h.nd) (by omega)).trans h.nd, h.ap.next ha⟩
theorem Stk.text {c : PC} {w : World} {k : Int} {i : Nat} {W : World} (h : Stk c w k i W) (hlo : c.lo ≤ w.heap.size) (tx : ByteArray) : Stx c w k tx i (W.setCell ⟨w.heap.size, 1, none⟩ (.string tx)) :=
 ⟨h.ps.ap ((Below.refl w.heap.size W).setCell (p := ⟨w.heap.size, 1, none⟩) qv _) hlo, by rw [zz8 h.nd]; rfl, h.ap.setCell (p := ⟨w.heap.size, 1, none⟩) (Or.inl qv) _⟩
def dcs : List (ByteArray × Int) := [(tVar, 2), (tLet, 3), (zqw, 4)]
def dcK (s : ByteArray) : Int := (zxy dcs s).getD 0
theorem dc_abc (s : ByteArray) : zxy [(tVar, 2), (tLet, 3), (zqw, 4)] s = zxy dcs s := by
 by_cases h1 : s = tVar
 ·
  subst h1; decide +kernel
 by_cases h2 : s = tLet
 ·
  subst h2; decide +kernel
 by_cases h3 : s = zqw
 ·
  subst h3; decide +kernel
 simp [zxy, dcs, h1, h2, h3]
theorem dc_acb (s : ByteArray) : zxy [(tVar, 2), (zqw, 4), (tLet, 3)] s = zxy dcs s := by
 by_cases h1 : s = tVar
 ·
  subst h1; decide +kernel
 by_cases h2 : s = tLet
 ·
  subst h2; decide +kernel
 by_cases h3 : s = zqw
 ·
  subst h3; decide +kernel
 simp [zxy, dcs, h1, h2, h3]
theorem dc_bac (s : ByteArray) : zxy [(tLet, 3), (tVar, 2), (zqw, 4)] s = zxy dcs s := by
 by_cases h1 : s = tVar
 ·
  subst h1; decide +kernel
 by_cases h2 : s = tLet
 ·
  subst h2; decide +kernel
 by_cases h3 : s = zqw
 ·
  subst h3; decide +kernel
 simp [zxy, dcs, h1, h2, h3]
theorem dc_bca (s : ByteArray) : zxy [(tLet, 3), (zqw, 4), (tVar, 2)] s = zxy dcs s := by
 by_cases h1 : s = tVar
 ·
  subst h1; decide +kernel
 by_cases h2 : s = tLet
 ·
  subst h2; decide +kernel
 by_cases h3 : s = zqw
 ·
  subst h3; decide +kernel
 simp [zxy, dcs, h1, h2, h3]
theorem dc_cab (s : ByteArray) : zxy [(zqw, 4), (tVar, 2), (tLet, 3)] s = zxy dcs s := by
 by_cases h1 : s = tVar
 ·
  subst h1; decide +kernel
 by_cases h2 : s = tLet
 ·
  subst h2; decide +kernel
 by_cases h3 : s = zqw
 ·
  subst h3; decide +kernel
 simp [zxy, dcs, h1, h2, h3]
theorem dc_cba (s : ByteArray) : zxy [(zqw, 4), (tLet, 3), (tVar, 2)] s = zxy dcs s := by
 by_cases h1 : s = tVar
 ·
  subst h1; decide +kernel
 by_cases h2 : s = tLet
 ·
  subst h2; decide +kernel
 by_cases h3 : s = zqw
 ·
  subst h3; decide +kernel
 simp [zxy, dcs, h1, h2, h3]
theorem decl_made (W : World) : ∃ ma mb mc mab mac mba mbc mca mcb mabc macb mbac mbca mcab mcba : Array MapEntry,
  (Instr.makeMap 89 none).run Tryz.prog W = .ok (.map (some W.heap.size)) (W.alloc (.map #[] 0))
  ∧ (Instr.mapUpdate 89 (.map (some W.heap.size)) (.string tVar) (.int .i64 2)).run Tryz.prog (W.alloc (.map #[] 0)) = .ok () (W.alloc (.map ma 1))
  ∧ (Instr.mapUpdate 89 (.map (some W.heap.size)) (.string tLet) (.int .i64 3)).run Tryz.prog (W.alloc (.map #[] 0)) = .ok () (W.alloc (.map mb 1))
  ∧ (Instr.mapUpdate 89 (.map (some W.heap.size)) (.string zqw) (.int .i64 4)).run Tryz.prog (W.alloc (.map #[] 0)) = .ok () (W.alloc (.map mc 1))
  ∧ (Instr.mapUpdate 89 (.map (some W.heap.size)) (.string tLet) (.int .i64 3)).run Tryz.prog (W.alloc (.map ma 1)) = .ok () (W.alloc (.map mab 2))
  ∧ (Instr.mapUpdate 89 (.map (some W.heap.size)) (.string zqw) (.int .i64 4)).run Tryz.prog (W.alloc (.map ma 1)) = .ok () (W.alloc (.map mac 2))
  ∧ (Instr.mapUpdate 89 (.map (some W.heap.size)) (.string tVar) (.int .i64 2)).run Tryz.prog (W.alloc (.map mb 1)) = .ok () (W.alloc (.map mba 2))
  ∧ (Instr.mapUpdate 89 (.map (some W.heap.size)) (.string zqw) (.int .i64 4)).run Tryz.prog (W.alloc (.map mb 1)) = .ok () (W.alloc (.map mbc 2))
  ∧ (Instr.mapUpdate 89 (.map (some W.heap.size)) (.string tVar) (.int .i64 2)).run Tryz.prog (W.alloc (.map mc 1)) = .ok () (W.alloc (.map mca 2))
  ∧ (Instr.mapUpdate 89 (.map (some W.heap.size)) (.string tLet) (.int .i64 3)).run Tryz.prog (W.alloc (.map mc 1)) = .ok () (W.alloc (.map mcb 2))
  ∧ (Instr.mapUpdate 89 (.map (some W.heap.size)) (.string zqw) (.int .i64 4)).run Tryz.prog (W.alloc (.map mab 2)) = .ok () (W.alloc (.map mabc 3))
  ∧ (Instr.mapUpdate 89 (.map (some W.heap.size)) (.string tLet) (.int .i64 3)).run Tryz.prog (W.alloc (.map mac 2)) = .ok () (W.alloc (.map macb 3))
  ∧ (Instr.mapUpdate 89 (.map (some W.heap.size)) (.string zqw) (.int .i64 4)).run Tryz.prog (W.alloc (.map mba 2)) = .ok () (W.alloc (.map mbac 3))
  ∧ (Instr.mapUpdate 89 (.map (some W.heap.size)) (.string tVar) (.int .i64 2)).run Tryz.prog (W.alloc (.map mbc 2)) = .ok () (W.alloc (.map mbca 3))
  ∧ (Instr.mapUpdate 89 (.map (some W.heap.size)) (.string tLet) (.int .i64 3)).run Tryz.prog (W.alloc (.map mca 2)) = .ok () (W.alloc (.map mcab 3))
  ∧ (Instr.mapUpdate 89 (.map (some W.heap.size)) (.string tVar) (.int .i64 2)).run Tryz.prog (W.alloc (.map mcb 2)) = .ok () (W.alloc (.map mcba 3))
  ∧ (∀ s, (Instr.lookup 89 (.map (some W.heap.size)) (.string s) false).run Tryz.prog (W.alloc (.map mabc 3)) = .ok (.int .i64 (dcK s)) (W.alloc (.map mabc 3)))
  ∧ (∀ s, (Instr.lookup 89 (.map (some W.heap.size)) (.string s) false).run Tryz.prog (W.alloc (.map macb 3)) = .ok (.int .i64 (dcK s)) (W.alloc (.map macb 3)))
  ∧ (∀ s, (Instr.lookup 89 (.map (some W.heap.size)) (.string s) false).run Tryz.prog (W.alloc (.map mbac 3)) = .ok (.int .i64 (dcK s)) (W.alloc (.map mbac 3)))
  ∧ (∀ s, (Instr.lookup 89 (.map (some W.heap.size)) (.string s) false).run Tryz.prog (W.alloc (.map mbca 3)) = .ok (.int .i64 (dcK s)) (W.alloc (.map mbca 3)))
  ∧ (∀ s, (Instr.lookup 89 (.map (some W.heap.size)) (.string s) false).run Tryz.prog (W.alloc (.map mcab 3)) = .ok (.int .i64 (dcK s)) (W.alloc (.map mcab 3)))
  ∧ (∀ s, (Instr.lookup 89 (.map (some W.heap.size)) (.string s) false).run Tryz.prog (W.alloc (.map mcba 3)) = .ok (.int .i64 (dcK s)) (W.alloc (.map mcba 3))) :=
 ⟨zx5 (zj0 [(tVar, 2)]), zx5 (zj0 [(tLet, 3)]), zx5 (zj0 [(zqw, 4)]), zx5 (zj0 [(tVar, 2), (tLet, 3)]), zx5 (zj0 [(tVar, 2), (zqw, 4)]), zx5 (zj0 [(tLet, 3), (tVar, 2)]), zx5 (zj0 [(tLet, 3), (zqw, 4)]), zx5 (zj0 [(zqw, 4), (tVar, 2)]), zx5 (zj0 [(zqw, 4), (tLet, 3)]), zx5 (zj0 [(tVar, 2), (tLet, 3), (zqw, 4)]), zx5 (zj0 [(tVar, 2), (zqw, 4), (tLet, 3)]), zx5 (zj0 [(tLet, 3), (tVar, 2), (zqw, 4)]), zx5 (zj0 [(tLet, 3), (zqw, 4), (tVar, 2)]), zx5 (zj0 [(zqw, 4), (tVar, 2), (tLet, 3)]), zx5 (zj0 [(zqw, 4), (tLet, 3), (tVar, 2)]),
  mkMap 89 W,
  zx0 89 3 W (zj0 []) tVar _ 0 _ _ rfl rfl rfl Tryz.underlying89 (by decide +kernel),
  zx0 89 3 W (zj0 []) tLet _ 0 _ _ rfl rfl rfl Tryz.underlying89 (by decide +kernel),
  zx0 89 3 W (zj0 []) zqw _ 0 _ _ rfl rfl rfl Tryz.underlying89 (by decide +kernel),
  zx0 89 3 W (zj0 [(tVar, 2)]) tLet _ 1 _ _ rfl rfl rfl Tryz.underlying89 (by decide +kernel),
  zx0 89 3 W (zj0 [(tVar, 2)]) zqw _ 1 _ _ rfl rfl rfl Tryz.underlying89 (by decide +kernel),
  zx0 89 3 W (zj0 [(tLet, 3)]) tVar _ 1 _ _ rfl rfl rfl Tryz.underlying89 (by decide +kernel),
  zx0 89 3 W (zj0 [(tLet, 3)]) zqw _ 1 _ _ rfl rfl rfl Tryz.underlying89 (by decide +kernel),
  zx0 89 3 W (zj0 [(zqw, 4)]) tVar _ 1 _ _ rfl rfl rfl Tryz.underlying89 (by decide +kernel),
  zx0 89 3 W (zj0 [(zqw, 4)]) tLet _ 1 _ _ rfl rfl rfl Tryz.underlying89 (by decide +kernel),
  zx0 89 3 W (zj0 [(tVar, 2), (tLet, 3)]) zqw _ 2 _ _ rfl rfl rfl Tryz.underlying89 (by decide +kernel),
  zx0 89 3 W (zj0 [(tVar, 2), (zqw, 4)]) tLet _ 2 _ _ rfl rfl rfl Tryz.underlying89 (by decide +kernel),
  zx0 89 3 W (zj0 [(tLet, 3), (tVar, 2)]) zqw _ 2 _ _ rfl rfl rfl Tryz.underlying89 (by decide +kernel),
  zx0 89 3 W (zj0 [(tLet, 3), (zqw, 4)]) tVar _ 2 _ _ rfl rfl rfl Tryz.underlying89 (by decide +kernel),
  zx0 89 3 W (zj0 [(zqw, 4), (tVar, 2)]) tLet _ 2 _ _ rfl rfl rfl Tryz.underlying89 (by decide +kernel),
  zx0 89 3 W (zj0 [(zqw, 4), (tLet, 3)]) tVar _ 2 _ _ rfl rfl rfl Tryz.underlying89 (by decide +kernel),
  fun s => (zhj W.heap.size 3 [(tVar, 2), (tLet, 3), (zqw, 4)] s _ (zqx _ _)).trans (by rw [dc_abc s]; rfl),
  fun s => (zhj W.heap.size 3 [(tVar, 2), (zqw, 4), (tLet, 3)] s _ (zqx _ _)).trans (by rw [dc_acb s]; rfl),
  fun s => (zhj W.heap.size 3 [(tLet, 3), (tVar, 2), (zqw, 4)] s _ (zqx _ _)).trans (by rw [dc_bac s]; rfl),
  fun s => (zhj W.heap.size 3 [(tLet, 3), (zqw, 4), (tVar, 2)] s _ (zqx _ _)).trans (by rw [dc_bca s]; rfl),
  fun s => (zhj W.heap.size 3 [(zqw, 4), (tVar, 2), (tLet, 3)] s _ (zqx _ _)).trans (by rw [dc_cab s]; rfl),
  fun s => (zhj W.heap.size 3 [(zqw, 4), (tLet, 3), (tVar, 2)] s _ (zqx _ _)).trans (by rw [dc_cba s]; rfl)⟩
def TokS (c : PC) (w W : World) : Prop := W.heap[c.P]? = w.heap[c.P]? ∧ W.heap[c.tb]? = w.heap[c.tb]?
theorem TokS.cell {c : PC} {w W : World} (h : TokS c w W) (o : Nat) : W.cell? ⟨c.P, o, none⟩ = w.cell? ⟨c.P, o, none⟩ := World.cell?_of_block (w := w) h.1
theorem TokS.tok {c : PC} {w W : World} (h : TokS c w W) (o : Nat) : W.cell? ⟨c.tb, o, none⟩ = w.cell? ⟨c.tb, o, none⟩ := World.cell?_of_block (w := w) h.2
theorem TokS.alloc {c : PC} {w W : World} (h : TokS c w W) (hp : c.P < W.heap.size) (ht : c.tb < W.heap.size) (o : Obj) : TokS c w (W.alloc o) := ⟨(Below.heap_alloc W o _ hp).trans h.1, (Below.heap_alloc W o _ ht).trans h.2⟩
theorem TokS.set {c : PC} {w W : World} (h : TokS c w W) {N o : Nat} {v : Value} (hp : c.P ≠ N) (ht : c.tb ≠ N) : TokS c w (W.setCell ⟨N, o, none⟩ v) := ⟨(Below.heap_setCell W ⟨N, o, none⟩ v _ hp).trans h.1, (Below.heap_setCell W ⟨N, o, none⟩ v _ ht).trans h.2⟩
theorem viaM {G : Array MapEntry → Prop} {goal : Prop} (h1 : (∀ m, G m) → goal) (h2 : ∀ m, G m) : goal := h1 h2
theorem Stn.decl {c : PC} {w : World} {i : Nat} {W W0 : World} (h : Stn c w i W) (hlo : c.lo ≤ w.heap.size) (h0 : W0 = W.drew) (o : Obj) (k : Int) : Stk c w k i ((W0.setCell ⟨w.heap.size, 0, none⟩ (.int .i64 k)).alloc o) := by
 subst h0
 exact ((h.below (Below.refl W.heap.size W).drew).kind hlo k).below (qb.alloc qv o)
end Go.Proofs.YtoimgcjbcbhclaaGreatDoor.Old
