/-
  The document's parser: if, with an else and without.
-/
import Derived.Test.YtodmgaikhbmlnaaGreatDoorTw20
import Derived.Test.YtodmgaikhbmlnaaGreatDoorTw22
set_option maxRecDepth 100000
set_option maxHeartbeats 16000000
namespace Go.Proofs.YtodmgaikhbmlnaaGreatDoor
open Go.RowKit
theorem rst_if {c : PC} {F : Fns} (hF : RCt c F) (hN : ∃ k, FNx c.l k F) (hK : FOk F) (w : World) (d i : Nat) (r : PR Tr) (hd : d ≤ 30) (hf : fx c.l i = tIf) (hs : r = (inParP c.l F d (i + 1)).bind fun v i1 => (deepP c.l F.st d i1).bind fun s i2 => if fx c.l i2 = tElse then (deepP c.l F.st d (i2 + 1)).bind fun s2 i3 => .ok (.mk 7 noText 0 [v, s, s2]) i3 else .ok (.mk 7 noText 0 [v, s]) i2) (ho : r ≠ .out) (h : Ps c w i 0 (-1)) :
  Calls Tryz.prog 47 #[pPtr c, .int .i64 (d : Int)] w (QPost c w (NV w.heap.size) ZN r) := by
 have HLT := hide h.rlt
 have HLO := hide h.base.size
 have HO := hide ho
 have HF := hide hF
 have HNN := hide hN
 have HKK := hide hK
 have hdd : decide ((30 : Int) < (d : Int)) = false := decide_eq_false (by omega)
 have n0 : ¬ fx c.l i = tLBrace := by rw [hf]; decide
 have n1 : ¬ fx c.l i = tSemi := by rw [hf]; decide
 have n2 : ¬ fx c.l i = tFunction := by rw [hf]; decide
 have HS0 := hide (Stn.new h)
 have hc := rnext_any c (w.alloc nd0) i tLBrace (by decide) HS0.out.ps
 rw [decide_eq_false n0] at hc
 have HC := hide hc
 clear hc
 clear h
 go_enter Tryz.func47, Tryz.ntmps47
 go_wp2_with fail
 refine cm HC.out ?_
 rintro e w1 ⟨rfl, hb⟩
 have HS1 := hide (HS0.out.below hb)
 clear hb HC HS0
 have HC := hide (rskip_no c w1 i tSemi (by decide) n1 HS1.out.ps)
 go_wp2_with fail
 refine cm HC.out ?_
 rintro e w2 ⟨rfl, hb⟩
 have HS2 := hide (HS1.out.below hb)
 clear hb HC HS1
 have HC := hide (rskip_no c w2 i tFunction (by decide) n2 HS2.out.ps)
 go_wp2_with fail
 refine cm HC.out ?_
 rintro e w3 ⟨rfl, hb⟩
 have HS3 := hide (HS2.out.below hb)
 clear hb HC HS2
 have HC := hide (rskip_yes c w3 i tIf (by decide) hf HS3.out.ps)
 go_wp2_with fail
 refine cm HC.out ?_
 rintro e w4 ⟨rfl, hp, ha⟩
 have HS4 := hide (HS3.out.on HLT.out hp ha)
 clear hp ha HC HS3
 have HQ := hide hs
 clear ho hs hF hN hK
 obtain ⟨i0, hi0, hz0, hz1, hz2⟩ := info_parts info22
 have HK2 := hide (HS4.out.kind HLO.out 7)
 have hPN : c.P < w.heap.size := unhide HLT
 have nb := HS4.out.nd
 obtain ⟨c0, c1, c2, c3, cf⟩ := node_cells nb
 have cf0 := cf 0
 have cf3 := cf 3
 have hnl := lt_of_heap nb
 clear nb
 cases hr : inParP c.l F d (i + 1) with
 | out => rw [hr] at HQ; exact absurd HQ.out HO.out
 | bad er pl =>
  have HC := hide (rhead_any HF.out _ d (i + 1) _ hd hr.symm (by nofun) HK2.out.ps); rw [hr] at HQ; have hq : r = .bad er pl := unhide HQ; subst hq; clear hr HQ; go_wp2_with fail; refine cm HC.out ?_
  rintro e wh ⟨⟨v, rfl, q, rfl⟩, ⟨j, hp1⟩, he, ha⟩; have nb0 := (ha.block _ (lt_of_heap HK2.out.nd) (by have := unhide HLT; omega)).trans HK2.out.nd
  have hA0 := HK2.out.ap.next ha; have HC2 := hide (rstatement2_old c wh j er pl (d : Int) he hp1); have HNB := hide nb0; have HA0 := hide hA0; clear hp1 ha HC nb0 hA0 c0 c1 c2 c3 cf cf0 cf3 hnl; go_wp2_with fail
  refine cm HC2.out ?_; rintro e wv ⟨⟨v, rfl, q2, rfl⟩, ⟨j2, hp2⟩, _, ha2⟩; have nb := (ha2.block _ (lt_of_heap HNB.out) (by have := unhide HLT; omega)).trans HNB.out
  obtain ⟨c0, c1, c2, c3, cf⟩ := node_cells nb; have cf3 := cf 3; have hnl := lt_of_heap nb; have hA := HA0.out.next ha2
  have HB : Hid (Below w.heap.size wv ((wv.setCell ⟨w.heap.size, 3, none⟩ (.slice (some ⟨wv.heap.size, 0, none⟩) 2 2)).alloc (.cells #[nPtr q, nPtr q2] 22))) := ((Below.refl w.heap.size wv).setCell (p := ⟨w.heap.size, 3, none⟩) (Nat.le_refl _) _).alloc (by simp; omega) _
  have HA := hide (hA.trans (Ap.of HB.out)); have HP := hide (hp2.ap HB.out HLO.out); clear hp2 ha2 HC2 nb hA; have HC3 := hide (rskip_old c _ j2 er pl he tElse HP.out); go_wp2_with fail; refine cm HC3.out ?_
  rintro e wz ⟨rfl, hb⟩; have HA9 := hide (HA.out.next (Ap.of hb)); have HP9 := hide (HP.out.later hb); clear hb HC3 c0 c1 c2 c3 cf cf3 hnl; go_wp2_with fail; go_ret; exact ⟨⟨_, rfl, _, rfl⟩, ⟨j2, HP9.out⟩, he, HA9.out⟩
 | ok t j =>
  have HC := hide (rhead_any HF.out _ d (i + 1) _ hd hr.symm (by nofun) HK2.out.ps); rw [hr] at HQ
  have HQ2 : Hid (r = (deepP c.l F.st d j).bind fun s i2 => if fx c.l i2 = tElse then (deepP c.l F.st d (i2 + 1)).bind fun s2 i3 => .ok (.mk 7 noText 0 [t, s, s2]) i3 else .ok (.mk 7 noText 0 [t, s]) i2) := unhide HQ
  clear hr HQ; go_wp2_with fail; refine cm HC.out ?_; rintro e wh ⟨⟨v, rfl, q, rfl, hn⟩, hp1, ha⟩; have HNB := hide ((ha.block _ (lt_of_heap HK2.out.nd) (by have := unhide HLT; omega)).trans HK2.out.nd)
  have HA0 := hide (HK2.out.ap.next ha); have HP0 := hide hp1; have HN0 := hide hn; have HZ0 := hide ha.size; clear hp1 ha HC hn c0 c1 c2 c3 cf cf0 cf3 hnl
  cases hr : deepP c.l F.st d j with
  | out => rw [hr] at HQ2; exact absurd HQ2.out HO.out
  | bad er pl =>
   have HC2 := hide (rstatement2_any HF.out wh d j _ hd hr.symm (by nofun) HP0.out); rw [hr] at HQ2; have hq : r = .bad er pl := unhide HQ2; subst hq; clear hr HQ2; go_wp2_with fail; refine cm HC2.out ?_
   rintro e wv ⟨⟨v, rfl, q2, rfl⟩, ⟨j2, hp2⟩, he, ha2⟩; have nb := (ha2.block _ (lt_of_heap HNB.out) (by have := unhide HLT; omega)).trans HNB.out
   obtain ⟨c0, c1, c2, c3, cf⟩ := node_cells nb; have cf3 := cf 3; have hnl := lt_of_heap nb; have hA := HA0.out.next ha2
   have HB : Hid (Below w.heap.size wv ((wv.setCell ⟨w.heap.size, 3, none⟩ (.slice (some ⟨wv.heap.size, 0, none⟩) 2 2)).alloc (.cells #[nPtr q, nPtr q2] 22))) := ((Below.refl w.heap.size wv).setCell (p := ⟨w.heap.size, 3, none⟩) (Nat.le_refl _) _).alloc (by simp; omega) _
   have HA := hide (hA.trans (Ap.of HB.out)); have HP := hide (hp2.ap HB.out HLO.out); clear hp2 ha2 HC2 nb hA; have HC3 := hide (rskip_old c _ j2 er pl he tElse HP.out); go_wp2_with fail; refine cm HC3.out ?_
   rintro e wz ⟨rfl, hb⟩; have HA9 := hide (HA.out.next (Ap.of hb)); have HP9 := hide (HP.out.later hb); clear hb HC3 c0 c1 c2 c3 cf cf3 hnl; go_wp2_with fail; go_ret; exact ⟨⟨_, rfl, _, rfl⟩, ⟨j2, HP9.out⟩, he, HA9.out⟩
  | ok s j2 =>
   have HC2 := hide (rstatement2_any HF.out wh d j _ hd hr.symm (by nofun) HP0.out); rw [hr] at HQ2
   have HQ3 : Hid (r = if fx c.l j2 = tElse then (deepP c.l F.st d (j2 + 1)).bind fun s2 i3 => .ok (.mk 7 noText 0 [t, s, s2]) i3 else .ok (.mk 7 noText 0 [t, s]) j2) := unhide HQ2; clear hr HQ2; go_wp2_with fail
   refine cm HC2.out ?_; rintro e wv ⟨⟨v, rfl, q2, rfl, hn2⟩, hp2, ha2⟩; have nb := (ha2.block _ (lt_of_heap HNB.out) (by have := unhide HLT; omega)).trans HNB.out
   obtain ⟨c0, c1, c2, c3, cf⟩ := node_cells nb; have cf3 := cf 3; have hnl := lt_of_heap nb; have hA := HA0.out.next ha2
   have HB : Hid (Below w.heap.size wv ((wv.setCell ⟨w.heap.size, 3, none⟩ (.slice (some ⟨wv.heap.size, 0, none⟩) 2 2)).alloc (.cells #[nPtr q, nPtr q2] 22))) := ((Below.refl w.heap.size wv).setCell (p := ⟨w.heap.size, 3, none⟩) (Nat.le_refl _) _).alloc (by simp; omega) _
   have HA := hide (hA.trans (Ap.of HB.out)); have HP := hide (hp2.ap HB.out HLO.out); have HZW := hide (lt_of_heap HK2.out.nd)
   have n1' := nv_at (NV.later ⟨q, rfl, HN0.out⟩ ha2 (by have h1 := unhide HLT; have h2 := unhide HZW; omega))
   have n2' := NAt.mono (J := fun b => _ ≤ b) (fun b hb _ => Nat.le_trans HZ0.out hb) _ _ hn2
   have HOP : Hid (Open w.heap.size ((wv.setCell ⟨w.heap.size, 3, none⟩ (.slice (some ⟨wv.heap.size, 0, none⟩) 2 2)).alloc (.cells #[nPtr q, nPtr q2] 22)) (.mk 7 noText 0 [t, s]) w.heap.size (.slice (some ⟨wv.heap.size, 0, none⟩) 2 2) [q, q2]) := st_open (Nat.le_refl _) HZW.out (set1 wv w.heap.size _) (by simp) (Nat.le_trans HZ0.out ha2.size) (by rw [heap_set nb]; rfl) (NAts.cons n1' (NAts.cons n2' NAts.nil)) rfl #[nPtr q, nPtr q2] rfl (by simp [maxLen])
   clear hp2 ha2 HC2 nb hA hn2 n1' n2'
   by_cases hx : fx c.l j2 = tElse
   ·
    rw [if_pos hx] at HQ3; have HC3 := hide (rskip_yes c _ j2 tElse (by decide) hx HP.out); clear hx; go_wp2_with fail; refine cm HC3.out ?_; rintro e w6 ⟨rfl, hp6, ha6⟩; have HP6 := hide hp6
    have HA6 := hide (HA.out.next ha6); have HO6 := hide (HOP.out.stay ha6 HLT.out); clear hp6 ha6 HC3 c0 c1 c2 c3 cf cf3 hnl HOP HA HP; obtain ⟨hc3, hcf, hcl⟩ := HO6.out.cell
    cases hr : deepP c.l F.st d (j2 + 1) with
    | out => rw [hr] at HQ3; exact absurd HQ3.out HO.out
    | bad er pl =>
     have HC := hide (rstatement2_any HF.out w6.drew d (j2 + 1) _ hd hr.symm (by nofun) HP6.out.drew); rw [hr] at HQ3; have hq : r = .bad er pl := unhide HQ3; subst hq; clear hr HQ3; go_wp2_with fail
     refine wp_region_any (by kernel_rfl) ?_; change wpAny _ _ _ _ _ _ _ (World.drew _); refine wt 0 (nPtr w.heap.size) ?_; refine wt 1 (nPtr w.heap.size) ?_; refine wt 2 (nPtr w.heap.size) ?_
     refine wt 3 (.pointer (some ⟨w.heap.size, 3, none⟩)) ?_; refine wt 5 (pPtr c) ?_; refine wt 6 (.int .i64 (d : Int)) ?_; refine wr2 4 7 (fun K hK => ?_) fun K hK => ?_
     ·
      go_simp; refine hK _ _ ?_; clear hK K; refine wr1 7 fun K hK => ?_; go_simp; refine cm HC.out ?_; rintro e wc ⟨⟨vc, rfl, pc, rfl⟩, ⟨jc, hpc⟩, he, ha⟩; have HAc := hide (HA6.out.drew.next ha); have HPc := hide hpc
      have HOc := hide (HO6.out.stay (((Ap.refl c.P w6.heap.size w6).drew).next ha) HLT.out); obtain ⟨gc3, gcf, gcl⟩ := HOc.out.cell; clear ha hpc; refine hK _ _ ?_; clear hK K; refine wr1 8 fun K hK => ?_; go_simp
      refine hK _ _ ?_; clear hK K; have hown := HOc.out.row; have HOWN := hide hown; have hsz := HAc.out.size; clear hown; refine wr1 9 fun K hK => ?_
      refine step_append_lies _ rfl _ _ 36 rfl w.heap.size 22 i0 (.pointer none) 1 8 Tryz.underlying36 hi0 hz0 hz1 hz2 rfl (by decide) _ _ _ rfl (HOWN.out.alloc _) ⟨wc.heap.size, 0, none⟩ 1 1 [nPtr pc] rfl rfl (one_cells wc pc _ rfl) (one_one pc) (by decide) (by simp [maxLen]) (by simp) (by simp; omega) (wc.heap.size + 1) (by simp) ?_
      intro g cap w3 hown3 hgr3 hg3 _; refine hK _ _ ?_; clear hK K
      have HBW : ∀ v, Hid (Below w.heap.size wc (w3.setCell ⟨w.heap.size, 3, none⟩ v)) := fun v => HOc.out.grows ((Below.refl _ wc).alloc hsz _) (by simp; omega) hgr3
      have hp3 : w3.cell? ⟨w.heap.size, 3, none⟩ = wc.cell? ⟨w.heap.size, 3, none⟩ ∧ w3.frozen? ⟨w.heap.size, 3, none⟩ = wc.frozen? ⟨w.heap.size, 3, none⟩ := by
       have hbb : w3.heap[w.heap.size]? = wc.heap[w.heap.size]? := (hgr3.block w.heap.size (by simp; omega) (fun e => HOc.out.own e.symm)).trans (Below.heap_alloc wc _ w.heap.size gcl)
       exact ⟨World.cell?_of_block (w := wc) hbb, World.frozen?_of_block (w := wc) hbb⟩
      obtain ⟨hp3c, hp3f⟩ := hp3; rw [gc3] at hp3c; rw [gcf 3] at hp3f; clear hown3 hgr3 hg3; refine wt 10 (nPtr w.heap.size) ?_; refine wt 11 (.pointer (some ⟨w.heap.size, 3, none⟩)) ?_; refine wr1 12 fun K hK => ?_
      go_simp; refine hK _ _ ?_; clear hK K hp3c hp3f gc3 gcf gcl HOWN hcf hc3 hcl; refine wpAny_done (by kernel_rfl) ?_ _; go_simp; go_wp2_with fail; go_ret
      exact ⟨⟨_, rfl, _, rfl⟩, ⟨jc, HPc.out.ap (unhide (HBW _)) HLO.out⟩, he, HAc.out.trans (Ap.of (unhide (HBW _)))⟩
     ·
      go_simp; refine cm HC.out ?_; rintro e wc ⟨⟨vc, rfl, pc, rfl⟩, ⟨jc, hpc⟩, he, ha⟩; have HAc := hide (HA6.out.drew.next ha); have HPc := hide hpc
      have HOc := hide (HO6.out.stay (((Ap.refl c.P w6.heap.size w6).drew).next ha) HLT.out); obtain ⟨gc3, gcf, gcl⟩ := HOc.out.cell; clear ha hpc; refine hK _ _ ?_; clear hK K
      refine wr2 4 8 (fun K hK => ?_) fun K hK => ?_
      ·
       go_simp; refine hK _ _ ?_; clear hK K; refine wr1 8 fun K hK => ?_; go_simp; refine hK _ _ ?_; clear hK K; have hown := HOc.out.row; have HOWN := hide hown; have hsz := HAc.out.size; clear hown
       refine wr1 9 fun K hK => ?_
       refine step_append_lies _ rfl _ _ 36 rfl w.heap.size 22 i0 (.pointer none) 1 8 Tryz.underlying36 hi0 hz0 hz1 hz2 rfl (by decide) _ _ _ rfl (HOWN.out.alloc _) ⟨wc.heap.size, 0, none⟩ 1 1 [nPtr pc] rfl rfl (one_cells wc pc _ rfl) (one_one pc) (by decide) (by simp [maxLen]) (by simp) (by simp; omega) (wc.heap.size + 1) (by simp) ?_
       intro g cap w3 hown3 hgr3 hg3 _; refine hK _ _ ?_; clear hK K
       have HBW : ∀ v, Hid (Below w.heap.size wc (w3.setCell ⟨w.heap.size, 3, none⟩ v)) := fun v => HOc.out.grows ((Below.refl _ wc).alloc hsz _) (by simp; omega) hgr3
       have hp3 : w3.cell? ⟨w.heap.size, 3, none⟩ = wc.cell? ⟨w.heap.size, 3, none⟩ ∧ w3.frozen? ⟨w.heap.size, 3, none⟩ = wc.frozen? ⟨w.heap.size, 3, none⟩ := by
        have hbb : w3.heap[w.heap.size]? = wc.heap[w.heap.size]? := (hgr3.block w.heap.size (by simp; omega) (fun e => HOc.out.own e.symm)).trans (Below.heap_alloc wc _ w.heap.size gcl)
        exact ⟨World.cell?_of_block (w := wc) hbb, World.frozen?_of_block (w := wc) hbb⟩
       obtain ⟨hp3c, hp3f⟩ := hp3; rw [gc3] at hp3c; rw [gcf 3] at hp3f; clear hown3 hgr3 hg3; refine wt 10 (nPtr w.heap.size) ?_; refine wt 11 (.pointer (some ⟨w.heap.size, 3, none⟩)) ?_; refine wr1 12 fun K hK => ?_
       go_simp; refine hK _ _ ?_; clear hK K hp3c hp3f gc3 gcf gcl HOWN hcf hc3 hcl; refine wpAny_done (by kernel_rfl) ?_ _; go_simp; go_wp2_with fail; go_ret
       exact ⟨⟨_, rfl, _, rfl⟩, ⟨jc, HPc.out.ap (unhide (HBW _)) HLO.out⟩, he, HAc.out.trans (Ap.of (unhide (HBW _)))⟩
      ·
       go_simp; refine hK _ _ ?_; clear hK K; refine wr1 4 fun K hK => ?_; go_simp; refine hK _ _ ?_; clear hK K; have hown := HOc.out.row; have HOWN := hide hown; have hsz := HAc.out.size; clear hown
       refine wr1 9 fun K hK => ?_
       refine step_append_lies _ rfl _ _ 36 rfl w.heap.size 22 i0 (.pointer none) 1 8 Tryz.underlying36 hi0 hz0 hz1 hz2 rfl (by decide) _ _ _ rfl (HOWN.out.alloc _) ⟨wc.heap.size, 0, none⟩ 1 1 [nPtr pc] rfl rfl (one_cells wc pc _ rfl) (one_one pc) (by decide) (by simp [maxLen]) (by simp) (by simp; omega) (wc.heap.size + 1) (by simp) ?_
       intro g cap w3 hown3 hgr3 hg3 _; refine hK _ _ ?_; clear hK K
       have HBW : ∀ v, Hid (Below w.heap.size wc (w3.setCell ⟨w.heap.size, 3, none⟩ v)) := fun v => HOc.out.grows ((Below.refl _ wc).alloc hsz _) (by simp; omega) hgr3
       have hp3 : w3.cell? ⟨w.heap.size, 3, none⟩ = wc.cell? ⟨w.heap.size, 3, none⟩ ∧ w3.frozen? ⟨w.heap.size, 3, none⟩ = wc.frozen? ⟨w.heap.size, 3, none⟩ := by
        have hbb : w3.heap[w.heap.size]? = wc.heap[w.heap.size]? := (hgr3.block w.heap.size (by simp; omega) (fun e => HOc.out.own e.symm)).trans (Below.heap_alloc wc _ w.heap.size gcl)
        exact ⟨World.cell?_of_block (w := wc) hbb, World.frozen?_of_block (w := wc) hbb⟩
       obtain ⟨hp3c, hp3f⟩ := hp3; rw [gc3] at hp3c; rw [gcf 3] at hp3f; clear hown3 hgr3 hg3; refine wt 10 (nPtr w.heap.size) ?_; refine wt 11 (.pointer (some ⟨w.heap.size, 3, none⟩)) ?_; refine wr1 12 fun K hK => ?_
       go_simp; refine hK _ _ ?_; clear hK K hp3c hp3f gc3 gcf gcl HOWN hcf hc3 hcl; refine wpAny_done (by kernel_rfl) ?_ _; go_simp; go_wp2_with fail; go_ret
       exact ⟨⟨_, rfl, _, rfl⟩, ⟨jc, HPc.out.ap (unhide (HBW _)) HLO.out⟩, he, HAc.out.trans (Ap.of (unhide (HBW _)))⟩
    | ok s2 j3 =>
     have HC := hide (rstatement2_any HF.out w6.drew d (j2 + 1) _ hd hr.symm (by nofun) HP6.out.drew); rw [hr] at HQ3; have hq : r = .ok (.mk 7 noText 0 [t, s, s2]) j3 := unhide HQ3; subst hq; clear hr HQ3
     go_wp2_with fail; refine wp_region_any (by kernel_rfl) ?_; change wpAny _ _ _ _ _ _ _ (World.drew _); refine wt 0 (nPtr w.heap.size) ?_; refine wt 1 (nPtr w.heap.size) ?_; refine wt 2 (nPtr w.heap.size) ?_
     refine wt 3 (.pointer (some ⟨w.heap.size, 3, none⟩)) ?_; refine wt 5 (pPtr c) ?_; refine wt 6 (.int .i64 (d : Int)) ?_; refine wr2 4 7 (fun K hK => ?_) fun K hK => ?_
     ·
      go_simp; refine hK _ _ ?_; clear hK K; refine wr1 7 fun K hK => ?_; go_simp; refine cm HC.out ?_; rintro e wc ⟨⟨vc, rfl, pc, rfl, hnc⟩, hpc, ha⟩; have HAc := hide (HA6.out.drew.next ha); have HPc := hide hpc
      have HOc := hide (HO6.out.stay (((Ap.refl c.P w6.heap.size w6).drew).next ha) HLT.out); have HNc := hide (HO6.out.apart2 HA6.out.size (Nat.le_refl _) (NAts.cons hnc NAts.nil)); obtain ⟨gc3, gcf, gcl⟩ := HOc.out.cell
      clear ha hpc hnc; refine hK _ _ ?_; clear hK K; refine wr1 8 fun K hK => ?_; go_simp; refine hK _ _ ?_; clear hK K; have hown := HOc.out.row; have HOWN := hide hown; have hsz := HAc.out.size; clear hown
      refine wr1 9 fun K hK => ?_
      refine step_append_lies _ rfl _ _ 36 rfl w.heap.size 22 i0 (.pointer none) 1 8 Tryz.underlying36 hi0 hz0 hz1 hz2 rfl (by decide) _ _ _ rfl (HOWN.out.alloc _) ⟨wc.heap.size, 0, none⟩ 1 1 [nPtr pc] rfl rfl (one_cells wc pc _ rfl) (one_one pc) (by decide) (by simp [maxLen]) (by simp) (by simp; omega) (wc.heap.size + 1) (by simp) ?_
      intro g cap w3 hown3 hgr3 hg3 _; refine hK _ _ ?_; clear hK K; have HEV := hide (Open.push2 HOc.out HNc.out rfl hown3 hgr3 hg3)
      have HBW : ∀ v, Hid (Below w.heap.size wc (w3.setCell ⟨w.heap.size, 3, none⟩ v)) := fun v => HOc.out.grows ((Below.refl _ wc).alloc hsz _) (by simp; omega) hgr3
      have hp3 : w3.cell? ⟨w.heap.size, 3, none⟩ = wc.cell? ⟨w.heap.size, 3, none⟩ ∧ w3.frozen? ⟨w.heap.size, 3, none⟩ = wc.frozen? ⟨w.heap.size, 3, none⟩ := by
       have hbb : w3.heap[w.heap.size]? = wc.heap[w.heap.size]? := (hgr3.block w.heap.size (by simp; omega) (fun e => HOc.out.own e.symm)).trans (Below.heap_alloc wc _ w.heap.size gcl)
       exact ⟨World.cell?_of_block (w := wc) hbb, World.frozen?_of_block (w := wc) hbb⟩
      obtain ⟨hp3c, hp3f⟩ := hp3; rw [gc3] at hp3c; rw [gcf 3] at hp3f; clear hown3 hgr3 hg3; refine wt 10 (nPtr w.heap.size) ?_; refine wt 11 (.pointer (some ⟨w.heap.size, 3, none⟩)) ?_; refine wr1 12 fun K hK => ?_
      go_simp; refine hK _ _ ?_; clear hK K hp3c hp3f gc3 gcf gcl HOWN hcf hc3 hcl; refine wpAny_done (by kernel_rfl) ?_ _; go_simp; go_wp2_with fail; go_ret
      exact ⟨⟨_, rfl, HEV.out.nv⟩, HPc.out.ap (unhide (HBW _)) HLO.out, HAc.out.trans (Ap.of (unhide (HBW _)))⟩
     ·
      go_simp; refine cm HC.out ?_; rintro e wc ⟨⟨vc, rfl, pc, rfl, hnc⟩, hpc, ha⟩; have HAc := hide (HA6.out.drew.next ha); have HPc := hide hpc
      have HOc := hide (HO6.out.stay (((Ap.refl c.P w6.heap.size w6).drew).next ha) HLT.out); have HNc := hide (HO6.out.apart2 HA6.out.size (Nat.le_refl _) (NAts.cons hnc NAts.nil)); obtain ⟨gc3, gcf, gcl⟩ := HOc.out.cell
      clear ha hpc hnc; refine hK _ _ ?_; clear hK K; refine wr2 4 8 (fun K hK => ?_) fun K hK => ?_
      ·
       go_simp; refine hK _ _ ?_; clear hK K; refine wr1 8 fun K hK => ?_; go_simp; refine hK _ _ ?_; clear hK K; have hown := HOc.out.row; have HOWN := hide hown; have hsz := HAc.out.size; clear hown
       refine wr1 9 fun K hK => ?_
       refine step_append_lies _ rfl _ _ 36 rfl w.heap.size 22 i0 (.pointer none) 1 8 Tryz.underlying36 hi0 hz0 hz1 hz2 rfl (by decide) _ _ _ rfl (HOWN.out.alloc _) ⟨wc.heap.size, 0, none⟩ 1 1 [nPtr pc] rfl rfl (one_cells wc pc _ rfl) (one_one pc) (by decide) (by simp [maxLen]) (by simp) (by simp; omega) (wc.heap.size + 1) (by simp) ?_
       intro g cap w3 hown3 hgr3 hg3 _; refine hK _ _ ?_; clear hK K; have HEV := hide (Open.push2 HOc.out HNc.out rfl hown3 hgr3 hg3)
       have HBW : ∀ v, Hid (Below w.heap.size wc (w3.setCell ⟨w.heap.size, 3, none⟩ v)) := fun v => HOc.out.grows ((Below.refl _ wc).alloc hsz _) (by simp; omega) hgr3
       have hp3 : w3.cell? ⟨w.heap.size, 3, none⟩ = wc.cell? ⟨w.heap.size, 3, none⟩ ∧ w3.frozen? ⟨w.heap.size, 3, none⟩ = wc.frozen? ⟨w.heap.size, 3, none⟩ := by
        have hbb : w3.heap[w.heap.size]? = wc.heap[w.heap.size]? := (hgr3.block w.heap.size (by simp; omega) (fun e => HOc.out.own e.symm)).trans (Below.heap_alloc wc _ w.heap.size gcl)
        exact ⟨World.cell?_of_block (w := wc) hbb, World.frozen?_of_block (w := wc) hbb⟩
       obtain ⟨hp3c, hp3f⟩ := hp3; rw [gc3] at hp3c; rw [gcf 3] at hp3f; clear hown3 hgr3 hg3; refine wt 10 (nPtr w.heap.size) ?_; refine wt 11 (.pointer (some ⟨w.heap.size, 3, none⟩)) ?_; refine wr1 12 fun K hK => ?_
       go_simp; refine hK _ _ ?_; clear hK K hp3c hp3f gc3 gcf gcl HOWN hcf hc3 hcl; refine wpAny_done (by kernel_rfl) ?_ _; go_simp; go_wp2_with fail; go_ret
       exact ⟨⟨_, rfl, HEV.out.nv⟩, HPc.out.ap (unhide (HBW _)) HLO.out, HAc.out.trans (Ap.of (unhide (HBW _)))⟩
      ·
       go_simp; refine hK _ _ ?_; clear hK K; refine wr1 4 fun K hK => ?_; go_simp; refine hK _ _ ?_; clear hK K; have hown := HOc.out.row; have HOWN := hide hown; have hsz := HAc.out.size; clear hown
       refine wr1 9 fun K hK => ?_
       refine step_append_lies _ rfl _ _ 36 rfl w.heap.size 22 i0 (.pointer none) 1 8 Tryz.underlying36 hi0 hz0 hz1 hz2 rfl (by decide) _ _ _ rfl (HOWN.out.alloc _) ⟨wc.heap.size, 0, none⟩ 1 1 [nPtr pc] rfl rfl (one_cells wc pc _ rfl) (one_one pc) (by decide) (by simp [maxLen]) (by simp) (by simp; omega) (wc.heap.size + 1) (by simp) ?_
       intro g cap w3 hown3 hgr3 hg3 _; refine hK _ _ ?_; clear hK K; have HEV := hide (Open.push2 HOc.out HNc.out rfl hown3 hgr3 hg3)
       have HBW : ∀ v, Hid (Below w.heap.size wc (w3.setCell ⟨w.heap.size, 3, none⟩ v)) := fun v => HOc.out.grows ((Below.refl _ wc).alloc hsz _) (by simp; omega) hgr3
       have hp3 : w3.cell? ⟨w.heap.size, 3, none⟩ = wc.cell? ⟨w.heap.size, 3, none⟩ ∧ w3.frozen? ⟨w.heap.size, 3, none⟩ = wc.frozen? ⟨w.heap.size, 3, none⟩ := by
        have hbb : w3.heap[w.heap.size]? = wc.heap[w.heap.size]? := (hgr3.block w.heap.size (by simp; omega) (fun e => HOc.out.own e.symm)).trans (Below.heap_alloc wc _ w.heap.size gcl)
        exact ⟨World.cell?_of_block (w := wc) hbb, World.frozen?_of_block (w := wc) hbb⟩
       obtain ⟨hp3c, hp3f⟩ := hp3; rw [gc3] at hp3c; rw [gcf 3] at hp3f; clear hown3 hgr3 hg3; refine wt 10 (nPtr w.heap.size) ?_; refine wt 11 (.pointer (some ⟨w.heap.size, 3, none⟩)) ?_; refine wr1 12 fun K hK => ?_
       go_simp; refine hK _ _ ?_; clear hK K hp3c hp3f gc3 gcf gcl HOWN hcf hc3 hcl; refine wpAny_done (by kernel_rfl) ?_ _; go_simp; go_wp2_with fail; go_ret
       exact ⟨⟨_, rfl, HEV.out.nv⟩, HPc.out.ap (unhide (HBW _)) HLO.out, HAc.out.trans (Ap.of (unhide (HBW _)))⟩
   ·
    rw [if_neg hx] at HQ3; have hq : r = .ok (.mk 7 noText 0 [t, s]) j2 := unhide HQ3; subst hq; have HC3 := hide (rskip_no c _ j2 tElse (by decide) hx HP.out); clear hx HQ3; go_wp2_with fail; refine cm HC3.out ?_
    rintro e wz ⟨rfl, hb⟩; have HA9 := hide (HA.out.next (Ap.of hb)); have HP9 := hide (HP.out.later hb); have HN9 := hide (HOP.out.stay (Ap.of hb) HLT.out).nv; clear hb HC3 c0 c1 c2 c3 cf cf3 hnl; go_wp2_with fail; go_ret
    exact ⟨⟨_, rfl, HN9.out⟩, HP9.out, HA9.out⟩
end Go.Proofs.YtodmgaikhbmlnaaGreatDoor
