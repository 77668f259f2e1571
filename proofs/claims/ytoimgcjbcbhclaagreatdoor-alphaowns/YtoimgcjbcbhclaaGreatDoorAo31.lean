/-
  The document's parser: try (f).
-/
import Derived.Test.YtoimgcjbcbhclaaGreatDoorAo29
import Derived.Test.YtoimgcjbcbhclaaGreatDoorAo30
set_option maxRecDepth 100000
set_option maxHeartbeats 16000000
namespace Go.Proofs.YtoimgcjbcbhclaaGreatDoor
open Go.RowKit
theorem rst_try_f {c : PC} {F : Fns} (hF : RCt c F) (hN : ∃ k, FNx c.l k F) (hK : FOk F) (w : World) (d i : Nat) (r : PR Tr) (hd : d ≤ 30) (b : Tr) (j : Nat) (s : ByteArray) (k1 k2 k3 k4 : Nat) (b2 : Tr) (hf : fx c.l i = tTry) (hb0 : blockP c.l F d (i + 1) = .ok b j) (hc0 : fx c.l j = tCatch) (hr1 : mustP c.l tOpen (j + 1) = .ok () k1) (hr2 : nameP c.l k1 = .ok s k2) (hr3 : mustP c.l tShut k2 = .ok () k3) (hr4 : blockP c.l F d k3 = .ok b2 k4) (hs : r = (blockP c.l F d (i + 1)).bind fun b i1 => (catchP c.l F d i1).bind fun cc i2 => (finallyP c.l F d i2).bind fun f i3 => if cc.length + f.length = 0 then badF c.l 3 i3 else .ok (.mk 12 noText 0 (b :: (cc ++ f))) i3) (ho : r ≠ .out) (h : Ps c w i 0 (-1)) :
  Calls Tryz.prog 111 #[pPtr c, .int .i64 (d : Int)] w (QPost c w (NV w.heap.size) ZN r) := by
 have HLT := hide h.rlt
 have HLO := hide h.base.size
 have HO := hide ho
 have HF := hide hF
 have HNN := hide hN
 have HKK := hide hK
 have hdd : decide ((30 : Int) < (d : Int)) = false := decide_eq_false (by omega)
 have n0 : ¬ fx c.l i = tLBrace := by rw [hf]; decide
 have n1 : ¬ fx c.l i = tSemi := by rw [hf]; decide
 have n2 : ¬ fx c.l i = tFunction := by rw [hf]; decide
 have n3 : ¬ fx c.l i = tIf := by rw [hf]; decide
 have n4 : ¬ fx c.l i = tWhile := by rw [hf]; decide
 have n5 : ¬ fx c.l i = tWith := by rw [hf]; decide
 have HQ := hide hs
 clear hs
 have HS0 := hide (Stn.new h)
 have hc := rnext_any c (w.alloc nd0) i tLBrace (by decide) HS0.out.ps
 rw [decide_eq_false n0] at hc
 have HC := hide hc
 clear hc
 clear h
 go_enter Tryz.func111, Tryz.ntmps111
 go_wp2_with fail
 refine cm HC.out ?_
 rintro e w1 ⟨rfl, hb⟩
 have HS1 := hide (HS0.out.below hb)
 clear hb HC HS0
 have HC := hide (rskip_no c w1 i tSemi (by decide) n1 HS1.out.ps)
 go_wp2_with fail
 refine cm HC.out ?_
 rintro e w2 ⟨rfl, hb⟩
 have HS2 := hide (HS1.out.below hb)
 clear hb HC HS1
 have HC := hide (rskip_no c w2 i tFunction (by decide) n2 HS2.out.ps)
 go_wp2_with fail
 refine cm HC.out ?_
 rintro e w3 ⟨rfl, hb⟩
 have HS3 := hide (HS2.out.below hb)
 clear hb HC HS2
 have HC := hide (rskip_no c w3 i tIf (by decide) n3 HS3.out.ps)
 go_wp2_with fail
 refine cm HC.out ?_
 rintro e w4 ⟨rfl, hb⟩
 have HS4 := hide (HS3.out.below hb)
 clear hb HC HS3
 have hc := rnext_any c w4 i tWhile (by decide) HS4.out.ps
 rw [decide_eq_false n4] at hc
 have HC := hide hc
 clear hc
 go_wp2_with fail
 refine cm HC.out ?_
 rintro e w5 ⟨rfl, hb⟩
 have HS5 := hide (HS4.out.below hb)
 clear hb HC HS4
 have hc := rnext_any c w5 i tWith (by decide) HS5.out.ps
 rw [decide_eq_false n5] at hc
 have HC := hide hc
 clear hc
 go_wp2_with fail
 refine cm HC.out ?_
 rintro e w6 ⟨rfl, hb⟩
 have HS6 := hide (HS5.out.below hb)
 clear hb HC HS5
 have HC := hide (rskip_yes c w6 i tTry (by decide) hf HS6.out.ps)
 go_wp2_with fail
 refine cm HC.out ?_
 rintro e w7 ⟨rfl, hp, ha⟩
 have HS7 := hide (HS6.out.on HLT.out hp ha)
 clear hp ha HC HS6
 clear ho hF hN hK
 obtain ⟨i0, hi0, hz0, hz1, hz2⟩ := info_parts info22
 have HK2 := hide (HS7.out.kind HLO.out 12)
 have hPN : c.P < w.heap.size := unhide HLT
 have nb := HS7.out.nd
 obtain ⟨c0, c1, c2, c3, cf⟩ := node_cells nb
 have cf0 := cf 0
 have cf3 := cf 3
 have hnl := lt_of_heap nb
 clear nb
 have HQ1 : Hid (r = ((mustP c.l tOpen (j + 1)).bind fun _ i1 => (nameP c.l i1).bind fun s i2 => (mustP c.l tShut i2).bind fun _ i3 => (blockP c.l F d i3).bind fun b2 i4 => (finallyP c.l F d i4).bind fun f i5 => .ok (.mk 12 noText 0 (b :: .mk 13 s 0 [b2] :: f)) i5)) := by
  exact zbcd
 clear HQ
 have HC := hide (rbraces_any HF.out HNN.out HKK.out false _ d (i + 1) _ hd hb0.symm (by nofun) HK2.out.ps)
 clear hb0
 go_wp2_with fail
 refine cm HC.out ?_
 rintro e wv ⟨⟨v, rfl, q, rfl, hn⟩, hp2, ha2⟩
 have nb := (ha2.block _ (lt_of_heap HK2.out.nd) (by have := unhide HLT; omega)).trans HK2.out.nd
 clear c0 c1 c2 c3 cf cf0 cf3 hnl
 obtain ⟨c0, c1, c2, c3, cf⟩ := node_cells nb
 have cf3 := cf 3
 have hnl := lt_of_heap nb
 have hA := HK2.out.ap.next ha2
 have HB : Hid (Below w.heap.size wv ((wv.setCell ⟨w.heap.size, 3, none⟩ (.slice (some ⟨wv.heap.size, 0, none⟩) 1 1)).alloc (.cells #[nPtr q] 22))) := ((Below.refl w.heap.size wv).setCell (p := ⟨w.heap.size, 3, none⟩) (Nat.le_refl _) _).alloc (by simp; omega) _
 have HA := hide (hA.trans (Ap.of HB.out))
 have HP := hide (hp2.ap HB.out HLO.out)
 have HOP : Hid (Open w.heap.size ((wv.setCell ⟨w.heap.size, 3, none⟩ (.slice (some ⟨wv.heap.size, 0, none⟩) 1 1)).alloc (.cells #[nPtr q] 22)) (.mk 12 noText 0 [b]) w.heap.size (.slice (some ⟨wv.heap.size, 0, none⟩) 1 1) [q]) := st_open (Nat.le_refl _) (lt_of_heap HK2.out.nd) (set1 wv w.heap.size _) (by simp) ha2.size (by rw [heap_set nb]; rfl) (NAts.cons hn NAts.nil) rfl #[nPtr q] rfl (by simp [maxLen])
 clear hp2 ha2 HC nb hA hn
 have hx := hc0
 have HC3 := hide (rskip_yes c _ j tCatch (by decide) hx HP.out)
 clear hx
 go_wp2_with fail
 refine cm HC3.out ?_
 rintro e w6 ⟨rfl, hp6, ha6⟩
 replace HOP := hide (HOP.out.stay ha6 HLT.out)
 replace HA := hide (HA.out.next ha6)
 replace HP := hide hp6
 clear hp6 ha6 HC3
 clear c0 c1 c2 c3 cf cf3 hnl
 clear hc0
 have HC := hide (rmust_any c w6 (j + 1) tOpen (by decide) HP.out)
 go_wp2_with fail
 refine cm HC.out ?_
 intro e w8 hp
 rw [hr1] at hp
 obtain ⟨⟨v, rfl, rfl⟩, hp2, ha⟩ := hp
 clear HC
 replace HOP := hide (HOP.out.stay ha HLT.out)
 replace HA := hide (HA.out.next ha)
 replace HP := hide hp2
 clear hp2 ha
 have HC := hide (rident_any c w8 k1 HP.out)
 go_wp2_with fail
 refine cm HC.out ?_
 intro e w9 hp
 rw [hr2] at hp
 obtain ⟨⟨v, rfl, rfl⟩, hp2, ha⟩ := hp
 clear HC
 replace HOP := hide (HOP.out.stay ha HLT.out)
 replace HA := hide (HA.out.next ha)
 replace HP := hide hp2
 clear hp2 ha
 have HC := hide (rmust_any c w9 k2 tShut (by decide) HP.out)
 go_wp2_with fail
 refine cm HC.out ?_
 intro e wm hp
 rw [hr3] at hp
 obtain ⟨⟨v, rfl, rfl⟩, hp2, ha⟩ := hp
 clear HC
 replace HOP := hide (HOP.out.stay ha HLT.out)
 replace HA := hide (HA.out.next ha)
 replace HP := hide hp2
 clear hp2 ha
 obtain ⟨hc3, hcf, hcl⟩ := HOP.out.cell
 have HC := hide (rbraces_any HF.out HNN.out HKK.out false wm.drew d k3 _ hd hr4.symm (by nofun) HP.out.drew)
 have HQ2 : Hid (r = (finallyP c.l F d k4).bind fun f i5 => .ok (.mk 12 noText 0 (b :: .mk 13 s 0 [b2] :: f)) i5) := by
  have h1 := unhide HQ1; rw [hr1, bind_ok, hr2, bind_ok, hr3, bind_ok, hr4, bind_ok] at h1; exact h1
 clear HQ1 hr1 hr2 hr3 hr4
 go_wp2_with fail
 have HSZ := hide HA.out.size
 refine via2 (H := CallOk c w wm.heap.size (.mk 12 noText 0 [b]) (.slice (some ⟨wv.heap.size, 0, none⟩) 1 1) [q] b2 k4) (G := ?G3) (fun CONT => ?_) ?_
 rotate_left
 ·
  refine wp_region_any (by kernel_rfl) ?_; change wpAny _ _ _ _ _ _ _ (World.drew _); refine wt 0 (nPtr w.heap.size) ?_; refine wt 1 (nPtr w.heap.size) ?_; refine wt 2 (nPtr w.heap.size) ?_
  refine wt 3 (.pointer (some ⟨w.heap.size, 3, none⟩)) ?_; refine wt 5 (.string s) ?_; refine wt 6 (pPtr c) ?_; refine wt 7 (.int .i64 (d : Int)) ?_; refine wr2 4 8 (fun K hK => ?_) fun K hK => ?_
  ·
   go_simp; refine hK _ _ ?_; clear hK K; refine wr1 8 fun K hK => ?_; go_simp; refine cm HC.out ?_; rintro e wc ⟨⟨vc, rfl, pc, rfl, hnc⟩, hpc, ha⟩; have HAc := hide (HA.out.drew.next ha)
   have HOc := hide (HOP.out.stay (((Ap.refl c.P wm.heap.size wm).drew).next ha) HLT.out)
   have HHY : Hid (CallOk _ _ _ _ _ _ _ _ wc pc) := CallOk.mk (Z := wm.heap.size) HAc.out hpc HOc.out (NAts.cons hnc NAts.nil) ha.size (HOP.out.kb (((Ap.refl c.P wm.heap.size wm).drew).next ha) HLT.out)
   obtain ⟨gc3, gcf, gcl⟩ := HOc.out.cell; have gcl1 : w.heap.size < wc.heap.size + 1 := by omega
   have gcl2 : w.heap.size < wc.heap.size + 2 := by omega
   have gcl3 : w.heap.size < wc.heap.size + 1 + 1 := by omega
   clear ha hpc hnc; exact zbcn
  ·
   go_simp; refine cm HC.out ?_; rintro e wc ⟨⟨vc, rfl, pc, rfl, hnc⟩, hpc, ha⟩; have HAc := hide (HA.out.drew.next ha); have HOc := hide (HOP.out.stay (((Ap.refl c.P wm.heap.size wm).drew).next ha) HLT.out)
   have HHY : Hid (CallOk _ _ _ _ _ _ _ _ wc pc) := CallOk.mk (Z := wm.heap.size) HAc.out hpc HOc.out (NAts.cons hnc NAts.nil) ha.size (HOP.out.kb (((Ap.refl c.P wm.heap.size wm).drew).next ha) HLT.out)
   obtain ⟨gc3, gcf, gcl⟩ := HOc.out.cell; have gcl1 : w.heap.size < wc.heap.size + 1 := by omega
   have gcl2 : w.heap.size < wc.heap.size + 2 := by omega
   have gcl3 : w.heap.size < wc.heap.size + 1 + 1 := by omega
   clear ha hpc hnc; exact zbav
 ·
  intro wc pc hY; have HHY := hide hY; clear hY; obtain ⟨gc3, gcf, gcl⟩ := HHY.out.op.cell; have hsz := HHY.out.ap.size
  have HOn : Hid (Open w.heap.size ((wc.alloc (.cells #[nPtr pc] 22)).alloc (nodeObj 13 s 0 (.slice (some ⟨wc.heap.size, 0, none⟩) 1 1))) _ w.heap.size _ _) := (HHY.out.op.alloc (.cells #[nPtr pc] 22)).alloc (nodeObj 13 s 0 (.slice (some ⟨wc.heap.size, 0, none⟩) 1 1))
  refine wr1 13 fun K hK => ?_
  refine step_append_lies _ rfl _ _ 46 rfl w.heap.size 22 i0 (.pointer none) 1 8 Tryz.underlying46 hi0 hz0 hz1 hz2 rfl (by decide) _ _ _ rfl (HOn.out.row.alloc _) ⟨wc.heap.size + 2, 0, none⟩ 1 1 [nPtr (wc.heap.size + 1)] rfl rfl (one_cells ((wc.alloc (.cells #[nPtr pc] 22)).alloc (nodeObj 13 s 0 (.slice (some ⟨wc.heap.size, 0, none⟩) 1 1))) (wc.heap.size + 1) _ (by simp)) (one_one _) (by decide) (by simp [maxLen]) (by simp) (by simp; omega) (wc.heap.size + 3) (by simp) ?_
  intro g cap w3 hown3 hgr3 hg3 _; refine hK _ _ ?_; clear hK K
  have HEV := hide (Open.push2 (x := .mk 13 s 0 [b2]) HOn.out (HOP.out.apart2 HSZ.out (Nat.le_refl _) (NAts.cons (nv_at (nv_row HHY.out.nd HHY.out.sz (by simp [maxLen]) #[nPtr pc] rfl 1 rfl 13 s 0 _ rfl).nv) NAts.nil) ((HHY.out.kb.alloc _).alloc _)) rfl hown3 hgr3 (hg3.imp id fun e => by rw [e]; simp))
  have HBW : ∀ v, Hid (Below w.heap.size wc (w3.setCell ⟨w.heap.size, 3, none⟩ v)) := fun v => HHY.out.op.grows ((((Below.refl _ wc).alloc hsz _).alloc (by simp; omega) _).alloc (by simp; omega) _) (by simp; omega) hgr3
  have hB3 : Below wc.heap.size wc _ := (((Below.refl wc.heap.size wc).alloc (Nat.le_refl _) (.cells #[nPtr pc] 22)).alloc (by simp) (nodeObj 13 s 0 (.slice (some ⟨wc.heap.size, 0, none⟩) 1 1))).alloc (by simp <;> omega) (.cells #[nPtr (wc.heap.size + 1)] 22)
  have hbb : w3.heap[w.heap.size]? = wc.heap[w.heap.size]? := (hgr3.block w.heap.size (by simp; omega) (fun e => HHY.out.op.own e.symm)).trans (hB3.block w.heap.size gcl)
  have HNW : ∀ v, Hid ((w3.setCell ⟨w.heap.size, 3, none⟩ v).heap[w.heap.size]? = some (nodeObj 12 noText 0 v)) := fun v => by
   show _ = _
   rw [heap_set (hbb.trans HHY.out.op.blk)]; rfl
  have hp3 : w3.cell? ⟨w.heap.size, 3, none⟩ = wc.cell? ⟨w.heap.size, 3, none⟩ ∧ w3.frozen? ⟨w.heap.size, 3, none⟩ = wc.frozen? ⟨w.heap.size, 3, none⟩ := ⟨World.cell?_of_block (w := wc) hbb, World.frozen?_of_block (w := wc) hbb⟩
  obtain ⟨hp3c, hp3f⟩ := hp3; rw [gc3] at hp3c; rw [gcf 3] at hp3f; clear hown3 hgr3 hg3 hB3 hbb; refine wt 14 (nPtr w.heap.size) ?_; refine wt 15 (.pointer (some ⟨w.heap.size, 3, none⟩)) ?_; refine wr1 16 fun K hK => ?_
  go_simp; refine hK _ _ ?_; clear hK K gc3 gcf gcl; refine wpAny_done (by kernel_rfl) ?_ _; go_simp; have HPC := hide (HHY.out.ps.ap (unhide (HBW (.slice (some ⟨g, 0, none⟩) 2 cap))) HLO.out)
  have HAC := hide (HHY.out.ap.trans (Ap.of (unhide (HBW (.slice (some ⟨g, 0, none⟩) 2 cap))))); obtain ⟨qs, hOq⟩ := Open.of_ev HEV.out (unhide (HNW (.slice (some ⟨g, 0, none⟩) 2 cap)))
  obtain ⟨q1, q2, rfl⟩ : ∃ q1 q2, qs = [q1, q2] := by
   have hql : qs.length = 2 := NAts.length _ _ hOq.kids
   match qs, hql with
   | [a, b], _ => exact ⟨a, b, rfl⟩
  have HOQ : Hid (Open w.heap.size (w3.setCell ⟨w.heap.size, 3, none⟩ (.slice (some ⟨g, 0, none⟩) 2 cap)) (.mk 12 noText 0 [b, .mk 13 s 0 [b2]]) w.heap.size (.slice (some ⟨g, 0, none⟩) 2 cap) [q1, q2]) := hOq
  clear hOq HBW HNW hp3c hp3f HOP HP HA HSZ HOn HEV
  by_cases hf0 : fx c.l k4 = tFinally
  ·
   have HQ3 : Hid (r = (blockP c.l F d (k4 + 1)).bind fun b3 i6 => .ok (.mk 12 noText 0 [b, .mk 13 s 0 [b2], .mk 14 noText 0 [b3]]) i6) := by
    have h1 := unhide HQ2; unfold finallyP at h1; rw [if_pos hf0] at h1; rw [h1]
    cases blockP c.l F d (k4 + 1) <;> rfl
   have HC9 := hide (rskip_yes c _ k4 tFinally (by decide) hf0 HPC.out); clear hf0 HQ2 HHY hc3 hcf hcl; go_wp2_with fail; refine cm HC9.out ?_; rintro e wf ⟨rfl, hp6, ha6⟩; have HA := hide (HAC.out.next ha6)
   have HP := hide hp6; have HOP := hide (HOQ.out.stay ha6 HLT.out); clear hp6 ha6 HC9 HAC HPC HOQ; obtain ⟨hc3, hcf, hcl⟩ := HOP.out.cell
   cases hr : blockP c.l F d (k4 + 1) with
   | out => rw [hr] at HQ3; exact absurd HQ3.out HO.out
   | bad er pl =>
    have HC := hide (rbraces_any HF.out HNN.out HKK.out false wf.drew d (k4 + 1) _ hd hr.symm (by nofun) HP.out.drew); rw [hr] at HQ3; have hq : r = .bad er pl := unhide HQ3; subst hq; clear hr HQ3; go_wp2_with fail
    refine via2 (H := CallBad c w (.mk 12 noText 0 [b, .mk 13 s 0 [b2]]) (.slice (some ⟨g, 0, none⟩) 2 cap) [q1, q2] er pl) (G := ?G1) (fun CONT => ?_) ?_; rotate_left
    ·
     refine wp_region_any (by kernel_rfl) ?_; change wpAny _ _ _ _ _ _ _ (World.drew _); refine wt 0 (nPtr w.heap.size) ?_; refine wt 1 (nPtr w.heap.size) ?_; refine wt 2 (nPtr w.heap.size) ?_
     refine wt 3 (.pointer (some ⟨w.heap.size, 3, none⟩)) ?_; refine wt 5 (pPtr c) ?_; refine wt 6 (.int .i64 (d : Int)) ?_; refine wr2 4 7 (fun K hK => ?_) fun K hK => ?_
     ·
      go_simp; refine hK _ _ ?_; clear hK K; refine wr1 7 fun K hK => ?_; go_simp; refine cm HC.out ?_; rintro e wc ⟨⟨vc, rfl, pc, rfl⟩, hpc, he, ha⟩; have HAc := hide (HA.out.drew.next ha)
      have HOc := hide (HOP.out.stay (((Ap.refl c.P wf.heap.size wf).drew).next ha) HLT.out); exact zcba
     ·
      go_simp; refine cm HC.out ?_; rintro e wc ⟨⟨vc, rfl, pc, rfl⟩, hpc, he, ha⟩; have HAc := hide (HA.out.drew.next ha); have HOc := hide (HOP.out.stay (((Ap.refl c.P wf.heap.size wf).drew).next ha) HLT.out); exact zcbb
    ·
     intro wc pc hY; have HHY := hide hY; clear hY; obtain ⟨gc3, gcf, gcl⟩ := HHY.out.op.cell; have hsz := HHY.out.ap.size
     have HOn : Hid (Open w.heap.size ((wc.alloc (.cells #[nPtr pc] 22)).alloc (nodeObj 14 noText 0 (.slice (some ⟨wc.heap.size, 0, none⟩) 1 1))) _ w.heap.size _ _) := (HHY.out.op.alloc (.cells #[nPtr pc] 22)).alloc (nodeObj 14 noText 0 (.slice (some ⟨wc.heap.size, 0, none⟩) 1 1))
     refine wr1 12 fun K hK => ?_
     refine step_append_lies _ rfl _ _ 46 rfl w.heap.size 22 i0 (.pointer none) 1 8 Tryz.underlying46 hi0 hz0 hz1 hz2 rfl (by decide) _ _ _ rfl (HOn.out.row.alloc _) ⟨wc.heap.size + 2, 0, none⟩ 1 1 [nPtr (wc.heap.size + 1)] rfl rfl (one_cells ((wc.alloc (.cells #[nPtr pc] 22)).alloc (nodeObj 14 noText 0 (.slice (some ⟨wc.heap.size, 0, none⟩) 1 1))) (wc.heap.size + 1) _ (by simp)) (one_one _) (by decide) (by simp [maxLen]) (by simp) (by simp; omega) (wc.heap.size + 3) (by simp) ?_
     intro g cap w3 hown3 hgr3 hg3 _; refine hK _ _ ?_; clear hK K
     have HBW : ∀ v, Hid (Below w.heap.size wc (w3.setCell ⟨w.heap.size, 3, none⟩ v)) := fun v => HHY.out.op.grows ((((Below.refl _ wc).alloc hsz _).alloc (by simp; omega) _).alloc (by simp; omega) _) (by simp; omega) hgr3
     have hB3 : Below wc.heap.size wc _ := (((Below.refl wc.heap.size wc).alloc (Nat.le_refl _) (.cells #[nPtr pc] 22)).alloc (by simp) (nodeObj 14 noText 0 (.slice (some ⟨wc.heap.size, 0, none⟩) 1 1))).alloc (by simp <;> omega) (.cells #[nPtr (wc.heap.size + 1)] 22)
     have hbb : w3.heap[w.heap.size]? = wc.heap[w.heap.size]? := (hgr3.block w.heap.size (by simp; omega) (fun e => HHY.out.op.own e.symm)).trans (hB3.block w.heap.size gcl)
     have HNW : ∀ v, Hid ((w3.setCell ⟨w.heap.size, 3, none⟩ v).heap[w.heap.size]? = some (nodeObj 12 noText 0 v)) := fun v => by
      show _ = _
      rw [heap_set (hbb.trans HHY.out.op.blk)]; rfl
     have hp3 : w3.cell? ⟨w.heap.size, 3, none⟩ = wc.cell? ⟨w.heap.size, 3, none⟩ ∧ w3.frozen? ⟨w.heap.size, 3, none⟩ = wc.frozen? ⟨w.heap.size, 3, none⟩ := ⟨World.cell?_of_block (w := wc) hbb, World.frozen?_of_block (w := wc) hbb⟩
     obtain ⟨hp3c, hp3f⟩ := hp3; rw [gc3] at hp3c; rw [gcf 3] at hp3f; clear hown3 hgr3 hg3 hB3 hbb; exact zbcv
   | ok b3 k6 =>
    have HC := hide (rbraces_any HF.out HNN.out HKK.out false wf.drew d (k4 + 1) _ hd hr.symm (by nofun) HP.out.drew); rw [hr] at HQ3
    have hq : r = .ok (.mk 12 noText 0 [b, .mk 13 s 0 [b2], .mk 14 noText 0 [b3]]) k6 := unhide HQ3; subst hq; clear hr HQ3; go_wp2_with fail; have HSZ := hide HA.out.size
    refine via2 (H := CallOk c w wf.heap.size (.mk 12 noText 0 [b, .mk 13 s 0 [b2]]) (.slice (some ⟨g, 0, none⟩) 2 cap) [q1, q2] b3 k6) (G := ?G2) (fun CONT => ?_) ?_; rotate_left
    ·
     refine wp_region_any (by kernel_rfl) ?_; change wpAny _ _ _ _ _ _ _ (World.drew _); refine wt 0 (nPtr w.heap.size) ?_; refine wt 1 (nPtr w.heap.size) ?_; refine wt 2 (nPtr w.heap.size) ?_
     refine wt 3 (.pointer (some ⟨w.heap.size, 3, none⟩)) ?_; refine wt 5 (pPtr c) ?_; refine wt 6 (.int .i64 (d : Int)) ?_; refine wr2 4 7 (fun K hK => ?_) fun K hK => ?_
     ·
      go_simp; refine hK _ _ ?_; clear hK K; refine wr1 7 fun K hK => ?_; go_simp; refine cm HC.out ?_; rintro e wc ⟨⟨vc, rfl, pc, rfl, hnc⟩, hpc, ha⟩; have HAc := hide (HA.out.drew.next ha)
      have HOc := hide (HOP.out.stay (((Ap.refl c.P wf.heap.size wf).drew).next ha) HLT.out)
      have HHY : Hid (CallOk _ _ _ _ _ _ _ _ wc pc) := CallOk.mk (Z := wf.heap.size) HAc.out hpc HOc.out (NAts.cons hnc NAts.nil) ha.size (HOP.out.kb (((Ap.refl c.P wf.heap.size wf).drew).next ha) HLT.out); exact zcbg
     ·
      go_simp; refine cm HC.out ?_; rintro e wc ⟨⟨vc, rfl, pc, rfl, hnc⟩, hpc, ha⟩; have HAc := hide (HA.out.drew.next ha); have HOc := hide (HOP.out.stay (((Ap.refl c.P wf.heap.size wf).drew).next ha) HLT.out)
      have HHY : Hid (CallOk _ _ _ _ _ _ _ _ wc pc) := CallOk.mk (Z := wf.heap.size) HAc.out hpc HOc.out (NAts.cons hnc NAts.nil) ha.size (HOP.out.kb (((Ap.refl c.P wf.heap.size wf).drew).next ha) HLT.out); exact zcbh
    ·
     intro wc pc hY; have HHY := hide hY; clear hY; obtain ⟨gc3, gcf, gcl⟩ := HHY.out.op.cell; have hsz := HHY.out.ap.size
     have HOn : Hid (Open w.heap.size ((wc.alloc (.cells #[nPtr pc] 22)).alloc (nodeObj 14 noText 0 (.slice (some ⟨wc.heap.size, 0, none⟩) 1 1))) _ w.heap.size _ _) := (HHY.out.op.alloc (.cells #[nPtr pc] 22)).alloc (nodeObj 14 noText 0 (.slice (some ⟨wc.heap.size, 0, none⟩) 1 1))
     refine wr1 12 fun K hK => ?_
     refine step_append_lies _ rfl _ _ 46 rfl w.heap.size 22 i0 (.pointer none) 1 8 Tryz.underlying46 hi0 hz0 hz1 hz2 rfl (by decide) _ _ _ rfl (HOn.out.row.alloc _) ⟨wc.heap.size + 2, 0, none⟩ 1 1 [nPtr (wc.heap.size + 1)] rfl rfl (one_cells ((wc.alloc (.cells #[nPtr pc] 22)).alloc (nodeObj 14 noText 0 (.slice (some ⟨wc.heap.size, 0, none⟩) 1 1))) (wc.heap.size + 1) _ (by simp)) (one_one _) (by decide) (by simp [maxLen]) (by simp) (by simp; omega) (wc.heap.size + 3) (by simp) ?_
     intro g cap w3 hown3 hgr3 hg3 _; refine hK _ _ ?_; clear hK K
     have HEV := hide (Open.push2 (x := .mk 14 noText 0 [b3]) HOn.out (HOP.out.apart2 HSZ.out (Nat.le_refl _) (NAts.cons (nv_at (nv_row HHY.out.nd HHY.out.sz (by simp [maxLen]) #[nPtr pc] rfl 1 rfl 14 noText 0 _ rfl).nv) NAts.nil) ((HHY.out.kb.alloc _).alloc _)) rfl hown3 hgr3 (hg3.imp id fun e => by rw [e]; simp))
     have HBW : ∀ v, Hid (Below w.heap.size wc (w3.setCell ⟨w.heap.size, 3, none⟩ v)) := fun v => HHY.out.op.grows ((((Below.refl _ wc).alloc hsz _).alloc (by simp; omega) _).alloc (by simp; omega) _) (by simp; omega) hgr3
     have hB3 : Below wc.heap.size wc _ := (((Below.refl wc.heap.size wc).alloc (Nat.le_refl _) (.cells #[nPtr pc] 22)).alloc (by simp) (nodeObj 14 noText 0 (.slice (some ⟨wc.heap.size, 0, none⟩) 1 1))).alloc (by simp <;> omega) (.cells #[nPtr (wc.heap.size + 1)] 22)
     have hbb : w3.heap[w.heap.size]? = wc.heap[w.heap.size]? := (hgr3.block w.heap.size (by simp; omega) (fun e => HHY.out.op.own e.symm)).trans (hB3.block w.heap.size gcl)
     have HNW : ∀ v, Hid ((w3.setCell ⟨w.heap.size, 3, none⟩ v).heap[w.heap.size]? = some (nodeObj 12 noText 0 v)) := fun v => by
      show _ = _
      rw [heap_set (hbb.trans HHY.out.op.blk)]; rfl
     have hp3 : w3.cell? ⟨w.heap.size, 3, none⟩ = wc.cell? ⟨w.heap.size, 3, none⟩ ∧ w3.frozen? ⟨w.heap.size, 3, none⟩ = wc.frozen? ⟨w.heap.size, 3, none⟩ := ⟨World.cell?_of_block (w := wc) hbb, World.frozen?_of_block (w := wc) hbb⟩
     obtain ⟨hp3c, hp3f⟩ := hp3; rw [gc3] at hp3c; rw [gcf 3] at hp3f; clear hown3 hgr3 hg3 hB3 hbb; exact zbde
  ·
   have hq : r = .ok (.mk 12 noText 0 [b, .mk 13 s 0 [b2]]) k4 := by
    have h1 := unhide HQ2; unfold finallyP at h1; rw [if_neg hf0] at h1; exact h1
   subst hq; have HC9 := hide (rskip_no c _ k4 tFinally (by decide) hf0 HPC.out); clear hf0 HQ2; go_wp2_with fail; refine cm HC9.out ?_; rintro e wy ⟨rfl, hb⟩; have HA2 := hide (HAC.out.next (Ap.of hb))
   have HP2 := hide (HPC.out.later hb); have HO2 := hide (HOQ.out.stay (Ap.of hb) HLT.out); clear hb HC9; obtain ⟨z3, zf, zl⟩ := HO2.out.cell; go_wp2_with fail; go_ret; exact ⟨⟨_, rfl, HO2.out.nv⟩, HP2.out, HA2.out⟩
theorem rest_any {c : PC} {F : Fns} (hF : RCt c F) (hN : ∃ k, FNx c.l k F) (hK : FOk F) : RestC c F where
 choice := by
  intro w d i r hd hf hs ho h; unfold choiceP at hs; rw [tx_of (by decide) hf, show hdKind tIf = 7 from by decide +kernel] at hs; exact rst_if hF hN hK w d i r hd hf hs ho h
 attempt := by
  intro w d i r hd hf hs ho h; unfold attemptP at hs; have hm : mustP c.l tTry i = .ok () (i + 1) := by unfold mustP; rw [if_pos hf]
  rw [hm, bind_ok] at hs
  cases hb : blockP c.l F d (i + 1) with
  | out => rw [hb] at hs; exact absurd hs ho
  | bad er pl => exact rst_try_a hF hN hK w d i r hd er pl hf hb hs ho h
  | ok b j =>
   by_cases hc : fx c.l j = tCatch
   ·
    by_cases hno : ∃ k3 b2 k4, blockP c.l F d k3 = .ok b2 k4 ∧ ∃ s k1 k2, mustP c.l tOpen (j + 1) = .ok () k1 ∧ nameP c.l k1 = .ok s k2 ∧ mustP c.l tShut k2 = .ok () k3
    ·
     obtain ⟨k3, b2, k4, h4, s, k1, k2, h1, h2, h3⟩ := hno; exact rst_try_f hF hN hK w d i r hd b j s k1 k2 k3 k4 b2 hf hb hc h1 h2 h3 h4 hs ho h
    ·
     exact rst_try_d hF hN hK w d i r hd b j hf hb hc (fun k3 b2 k4 h4 s k1 k2 h1 h2 h3 => hno ⟨k3, b2, k4, h4, s, k1, k2, h1, h2, h3⟩) hs ho h
   ·
    by_cases hf0 : fx c.l j = tFinally
    ·
     exact rst_try_c hF hN hK w d i r hd b j hf hb hc hf0 hs ho h
    ·
     exact rst_try_b hF hN hK w d i r hd b j hf hb hc hf0 hs ho h
 decl := by
  intro w d i r hd hf hs ho h
  rcases hf with hf | hf | hf
  ·
   exact rst_decl hF hN hK w d i r hd tVar 2 (Or.inl ⟨rfl, rfl⟩) hf hs ho h
  ·
   exact rst_decl hF hN hK w d i r hd tLet 3 (Or.inr (Or.inl ⟨rfl, rfl⟩)) hf hs ho h
  ·
   exact rst_decl hF hN hK w d i r hd tConst 4 (Or.inr (Or.inr ⟨rfl, rfl⟩)) hf hs ho h
theorem rfns_all {c : PC} (hE : Ends c.l) (k : Nat) : RCt c (rfns c.l k) := rfns_does hE (fun _ hF hN hK => rest_any hF hN hK) k
end Go.Proofs.YtoimgcjbcbhclaaGreatDoor
