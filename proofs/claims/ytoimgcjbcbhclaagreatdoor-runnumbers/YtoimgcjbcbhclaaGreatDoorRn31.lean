/-
  The document's parser: try (e).
-/
import Derived.Test.YtoimgcjbcbhclaaGreatDoorRn25
namespace Go.Proofs.YtoimgcjbcbhclaaGreatDoor.Old
open Go.RowKit
set_option maxRecDepth 100000 in
set_option maxHeartbeats 4000000 in
theorem rst_try_e {c : PC} {F : Fns} (hF : RCt c F) (hN : ∃ k, FNx c.l k F) (hK : FOk F) (w : World) (d i : Nat) (r : PR Tr) (hd : d ≤ 30) (b : Tr) (j : Nat) (s : ByteArray) (k1 k2 k3 k4 : Nat) (b2 : Tr) (hf : fx c.l i = tTry) (hb0 : zq0 c.l F d (i + 1) = .ok b j) (hc0 : fx c.l j = zj5) (hr1 : zz0 c.l zxk (j + 1) = .ok () k1) (hr2 : zjq c.l k1 = .ok s k2) (hr3 : zz0 c.l zjy k2 = .ok () k3) (hr4 : zq0 c.l F d k3 = .ok b2 k4) (hf0 : ¬ fx c.l k4 = zxz) (hs : r = (zq0 c.l F d (i + 1)).bind fun b i1 => (zy3 c.l F d i1).bind fun cc i2 => (zxw c.l F d i2).bind fun f i3 => if cc.length + f.length = 0 then badF c.l 3 i3 else .ok (.mk 12 zzx 0 (b :: (cc ++ f))) i3) (ho : r ≠ .out) (h : Ps c w i 0 (-1)) :
  Calls Tryz.prog 111 #[pPtr c, .int .i64 (d : Int)] w (zj3 c w (NV w.heap.size) ZN r) := by
 have HLT := qh h.rlt
 have HLO := qh h.base.size
 have HO := qh ho
 have HF := qh hF
 have HNN := qh hN
 have HKK := qh hK
 have hdd : decide ((30 : Int) < (d : Int)) = false := decide_eq_false (by omega)
 have n0 : ¬ fx c.l i = zz4 := by rw [hf]; decide
 have n1 : ¬ fx c.l i = zz9 := by rw [hf]; decide
 have n2 : ¬ fx c.l i = zzw := by rw [hf]; decide
 have n3 : ¬ fx c.l i = tIf := by rw [hf]; decide
 have n4 : ¬ fx c.l i = zjz := by rw [hf]; decide
 have n5 : ¬ fx c.l i = zv0 := by rw [hf]; decide
 have HQ := qh hs
 clear hs
 have HS0 := qh (Stn.new h)
 have hc := zzy c (w.alloc nd0) i zz4 (by decide) HS0.out.ps
 rw [decide_eq_false n0] at hc
 have HC := qh hc
 clear hc
 clear h
 go_enter Tryz.func111, Tryz.ntmps111
 go_wp2_with fail
 refine cm HC.out ?_
 rintro e w1 ⟨rfl, hb⟩
 have HS1 := qh (HS0.out.below hb)
 clear hb HC HS0
 have HC := qh (zz1 c w1 i zz9 (by decide) n1 HS1.out.ps)
 go_wp2_with fail
 refine cm HC.out ?_
 rintro e w2 ⟨rfl, hb⟩
 have HS2 := qh (HS1.out.below hb)
 clear hb HC HS1
 have HC := qh (zz1 c w2 i zzw (by decide) n2 HS2.out.ps)
 go_wp2_with fail
 refine cm HC.out ?_
 rintro e w3 ⟨rfl, hb⟩
 have HS3 := qh (HS2.out.below hb)
 clear hb HC HS2
 have HC := qh (zz1 c w3 i tIf (by decide) n3 HS3.out.ps)
 go_wp2_with fail
 refine cm HC.out ?_
 rintro e w4 ⟨rfl, hb⟩
 have HS4 := qh (HS3.out.below hb)
 clear hb HC HS3
 have hc := zzy c w4 i zjz (by decide) HS4.out.ps
 rw [decide_eq_false n4] at hc
 have HC := qh hc
 clear hc
 go_wp2_with fail
 refine cm HC.out ?_
 rintro e w5 ⟨rfl, hb⟩
 have HS5 := qh (HS4.out.below hb)
 clear hb HC HS4
 have hc := zzy c w5 i zv0 (by decide) HS5.out.ps
 rw [decide_eq_false n5] at hc
 have HC := qh hc
 clear hc
 go_wp2_with fail
 refine cm HC.out ?_
 rintro e w6 ⟨rfl, hb⟩
 have HS6 := qh (HS5.out.below hb)
 clear hb HC HS5
 have HC := qh (zxq c w6 i tTry (by decide) hf HS6.out.ps)
 go_wp2_with fail
 refine cm HC.out ?_
 rintro e w7 ⟨rfl, hp, ha⟩
 have HS7 := qh (HS6.out.on HLT.out hp ha)
 clear hp ha HC HS6
 clear ho hF hN hK
 obtain ⟨i0, hi0, hz0, hz1, hz2⟩ := info_parts zk0
 have HK2 := qh (HS7.out.kind HLO.out 12)
 have hPN : c.P < w.heap.size := zzq HLT
 have nb := HS7.out.nd
 obtain ⟨c0, c1, c2, c3, cf⟩ := zzj nb
 have cf0 := cf 0
 have cf3 := cf 3
 have hnl := zzz nb
 clear nb
 have HQ1 : Hid (r = ((zz0 c.l zxk (j + 1)).bind fun _ i1 => (zjq c.l i1).bind fun s i2 => (zz0 c.l zjy i2).bind fun _ i3 => (zq0 c.l F d i3).bind fun b2 i4 => (zxw c.l F d i4).bind fun f i5 => .ok (.mk 12 zzx 0 (b :: .mk 13 s 0 [b2] :: f)) i5)) := by
  have h1 := zzq HQ; rw [hb0, zzv] at h1; unfold zy3 at h1; rw [if_pos hc0] at h1; rw [h1]
  cases zz0 c.l zxk (j + 1) with
  | out => rfl
  | bad er pl => rfl
  | ok x1 k1 =>
   simp only [zzv]
   cases zjq c.l k1 with
   | out => rfl
   | bad er pl => rfl
   | ok x2 k2 =>
    simp only [zzv]
    cases zz0 c.l zjy k2 with
    | out => rfl
    | bad er pl => rfl
    | ok x3 k3 =>
     simp only [zzv]
     cases zq0 c.l F d k3 with
     | out => rfl
     | bad er pl => rfl
     | ok x4 k4 =>
      simp only [zzv]
      cases zxw c.l F d k4 with
      | out => rfl
      | bad er pl => rfl
      | ok x5 k5 =>
       simp only [zzv]; rw [if_neg (by simp)]; rfl
 clear HQ
 have HC := qh (zx8 HF.out HNN.out HKK.out false _ d (i + 1) _ hd hb0.symm (by nofun) HK2.out.ps)
 clear hb0
 go_wp2_with fail
 refine cm HC.out ?_
 rintro e wv ⟨⟨v, rfl, q, rfl, hn⟩, hp2, ha2⟩
 have nb := (ha2.block _ (zzz HK2.out.nd) (by have := zzq HLT; omega)).trans HK2.out.nd
 clear c0 c1 c2 c3 cf cf0 cf3 hnl
 obtain ⟨c0, c1, c2, c3, cf⟩ := zzj nb
 have cf3 := cf 3
 have hnl := zzz nb
 have hA := HK2.out.ap.next ha2
 have HB : Hid (Below w.heap.size wv ((wv.setCell ⟨w.heap.size, 3, none⟩ (.slice (some ⟨wv.heap.size, 0, none⟩) 1 1)).alloc (.cells #[nPtr q] 22))) := ((Below.refl w.heap.size wv).setCell (p := ⟨w.heap.size, 3, none⟩) qv _).alloc (by simp; omega) _
 have HA := qh (hA.trans (Ap.of HB.out))
 have HP := qh (hp2.ap HB.out HLO.out)
 have HOP : Hid (Open w.heap.size ((wv.setCell ⟨w.heap.size, 3, none⟩ (.slice (some ⟨wv.heap.size, 0, none⟩) 1 1)).alloc (.cells #[nPtr q] 22)) (.mk 12 zzx 0 [b]) w.heap.size (.slice (some ⟨wv.heap.size, 0, none⟩) 1 1) [q]) := zm0 qv (zzz HK2.out.nd) (set1 wv w.heap.size _) (by simp) ha2.size (by rw [zz8 nb]; rfl) (NAts.cons hn NAts.nil) rfl #[nPtr q] rfl (by simp [maxLen])
 clear hp2 ha2 HC nb hA hn
 have hx := hc0
 have HC3 := qh (zxq c _ j zj5 (by decide) hx HP.out)
 clear hx
 go_wp2_with fail
 refine cm HC3.out ?_
 rintro e w6 ⟨rfl, hp6, ha6⟩
 replace HOP := qh (HOP.out.stay ha6 HLT.out)
 replace HA := qh (HA.out.next ha6)
 replace HP := qh hp6
 clear hp6 ha6 HC3
 clear c0 c1 c2 c3 cf cf3 hnl
 clear hc0
 have HC := qh (zx4 c w6 (j + 1) zxk (by decide) HP.out)
 go_wp2_with fail
 refine cm HC.out ?_
 intro e w8 hp
 rw [hr1] at hp
 obtain ⟨⟨v, rfl, rfl⟩, hp2, ha⟩ := hp
 clear HC
 replace HOP := qh (HOP.out.stay ha HLT.out)
 replace HA := qh (HA.out.next ha)
 replace HP := qh hp2
 clear hp2 ha
 have HC := qh (zvk c w8 k1 HP.out)
 go_wp2_with fail
 refine cm HC.out ?_
 intro e w9 hp
 rw [hr2] at hp
 obtain ⟨⟨v, rfl, rfl⟩, hp2, ha⟩ := hp
 clear HC
 replace HOP := qh (HOP.out.stay ha HLT.out)
 replace HA := qh (HA.out.next ha)
 replace HP := qh hp2
 clear hp2 ha
 have HC := qh (zx4 c w9 k2 zjy (by decide) HP.out)
 go_wp2_with fail
 refine cm HC.out ?_
 intro e wm hp
 rw [hr3] at hp
 obtain ⟨⟨v, rfl, rfl⟩, hp2, ha⟩ := hp
 clear HC
 replace HOP := qh (HOP.out.stay ha HLT.out)
 replace HA := qh (HA.out.next ha)
 replace HP := qh hp2
 clear hp2 ha
 obtain ⟨hc3, hcf, hcl⟩ := HOP.out.cell
 have HC := qh (zx8 HF.out HNN.out HKK.out false wm.drew d k3 _ hd hr4.symm (by nofun) HP.out.drew)
 have HQ2 : Hid (r = (zxw c.l F d k4).bind fun f i5 => .ok (.mk 12 zzx 0 (b :: .mk 13 s 0 [b2] :: f)) i5) := by
  have h1 := zzq HQ1; rw [hr1, zzv, hr2, zzv, hr3, zzv, hr4, zzv] at h1; exact h1
 clear HQ1 hr1 hr2 hr3 hr4
 go_wp2_with fail
 have HSZ := qh HA.out.size
 refine via2 (H := CallOk c w wm.heap.size (.mk 12 zzx 0 [b]) (.slice (some ⟨wv.heap.size, 0, none⟩) 1 1) [q] b2 k4) (G := ?G1) (fun CONT => ?_) ?_
 rotate_left
 ·
  refine wp_region_any (by kernel_rfl) ?_; change wpAny _ _ _ _ _ _ _ (World.drew _); refine wt 0 (nPtr w.heap.size) ?_; refine wt 1 (nPtr w.heap.size) ?_; refine wt 2 (nPtr w.heap.size) ?_
  refine wt 3 (.pointer (some ⟨w.heap.size, 3, none⟩)) ?_; refine wt 5 (.string s) ?_; refine wt 6 (pPtr c) ?_; refine wt 7 (.int .i64 (d : Int)) ?_; refine wr2 4 8 (fun K hK => ?_) fun K hK => ?_
  ·
   go_simp; refine hK _ _ ?_; clear hK K; refine wr1 8 fun K hK => ?_; go_simp; refine cm HC.out ?_; rintro e wc ⟨⟨vc, rfl, pc, rfl, hnc⟩, hpc, ha⟩; have HAc := qh (HA.out.drew.next ha)
   have HOc := qh (HOP.out.stay (((Ap.refl c.P wm.heap.size wm).drew).next ha) HLT.out); have HHY : Hid (CallOk _ _ _ _ _ _ _ _ wc pc) := CallOk.mk (Z := wm.heap.size) HAc.out hpc HOc.out (NAts.cons hnc NAts.nil) ha.size
   obtain ⟨gc3, gcf, gcl⟩ := HOc.out.cell; have gcl1 : w.heap.size < wc.heap.size + 1 := by omega
   have gcl2 : w.heap.size < wc.heap.size + 2 := by omega
   have gcl3 : w.heap.size < wc.heap.size + 1 + 1 := by omega
   clear ha hpc hnc; refine hK _ _ ?_; clear hK K; refine wr1 9 fun K hK => ?_; go_simp; refine hK _ _ ?_; clear hK K
   refine wt 10 (.agg #[.int .i64 13, .string s, .int .i64 0, .slice (some ⟨wc.heap.size, 0, none⟩) 1 1]) ?_; refine wr1 11 fun K hK => ?_; go_simp; refine hK _ _ ?_; clear hK K; refine wr1 12 fun K hK => ?_; go_simp
   refine hK _ _ ?_; clear hK K; refine zq9 (listed' := tf 13 4) (by kernel_rfl) rfl ?_; exact CONT wc pc HHY.out
  ·
   go_simp; refine cm HC.out ?_; rintro e wc ⟨⟨vc, rfl, pc, rfl, hnc⟩, hpc, ha⟩; have HAc := qh (HA.out.drew.next ha); have HOc := qh (HOP.out.stay (((Ap.refl c.P wm.heap.size wm).drew).next ha) HLT.out)
   have HHY : Hid (CallOk _ _ _ _ _ _ _ _ wc pc) := CallOk.mk (Z := wm.heap.size) HAc.out hpc HOc.out (NAts.cons hnc NAts.nil) ha.size; obtain ⟨gc3, gcf, gcl⟩ := HOc.out.cell
   have gcl1 : w.heap.size < wc.heap.size + 1 := by omega
   have gcl2 : w.heap.size < wc.heap.size + 2 := by omega
   have gcl3 : w.heap.size < wc.heap.size + 1 + 1 := by omega
   clear ha hpc hnc; refine hK _ _ ?_; clear hK K; refine wr2 4 9 (fun K hK => ?_) fun K hK => ?_
   ·
    go_simp; refine hK _ _ ?_; clear hK K; refine wr1 9 fun K hK => ?_; go_simp; refine hK _ _ ?_; clear hK K; refine wt 10 (.agg #[.int .i64 13, .string s, .int .i64 0, .slice (some ⟨wc.heap.size, 0, none⟩) 1 1]) ?_
    refine wr1 11 fun K hK => ?_; go_simp; refine hK _ _ ?_; clear hK K; refine wr1 12 fun K hK => ?_; go_simp; refine hK _ _ ?_; clear hK K; exact wz 13 4 (CONT wc pc HHY.out)
   ·
    go_simp; refine hK _ _ ?_; clear hK K; refine wt 10 (.agg #[.int .i64 13, .string s, .int .i64 0, .slice (some ⟨wc.heap.size, 0, none⟩) 1 1]) ?_; refine wr2 4 11 (fun K hK => ?_) fun K hK => ?_
    ·
     go_simp; refine hK _ _ ?_; clear hK K; refine wr1 11 fun K hK => ?_; go_simp; refine hK _ _ ?_; clear hK K; refine wr1 12 fun K hK => ?_; go_simp; refine hK _ _ ?_; clear hK K; exact wz 13 4 (CONT wc pc HHY.out)
    ·
     go_simp; refine hK _ _ ?_; clear hK K; refine wr2 4 12 (fun K hK => ?_) fun K hK => ?_
     ·
      go_simp; refine hK _ _ ?_; clear hK K; refine wr1 12 fun K hK => ?_; go_simp; refine hK _ _ ?_; clear hK K; exact wz 13 4 (CONT wc pc HHY.out)
     ·
      go_simp; refine hK _ _ ?_; clear hK K; refine wr1 4 fun K hK => ?_; go_simp; refine hK _ _ ?_; clear hK K; exact wz 13 4 (CONT wc pc HHY.out)
 ·
  intro wc pc hY; have HHY := qh hY; clear hY; obtain ⟨gc3, gcf, gcl⟩ := HHY.out.op.cell; have hsz := HHY.out.ap.size
  have HOn : Hid (Open w.heap.size ((wc.alloc (.cells #[nPtr pc] 22)).alloc (zzk 13 s 0 (.slice (some ⟨wc.heap.size, 0, none⟩) 1 1))) _ w.heap.size _ _) := (HHY.out.op.alloc (.cells #[nPtr pc] 22)).alloc (zzk 13 s 0 (.slice (some ⟨wc.heap.size, 0, none⟩) 1 1))
  refine wr1 13 fun K hK => ?_
  refine step_append_lies _ rfl _ _ 46 rfl w.heap.size 22 i0 (.pointer none) 1 8 Tryz.underlying46 hi0 hz0 hz1 hz2 rfl (by decide) _ _ _ rfl (HOn.out.row.alloc _) ⟨wc.heap.size + 2, 0, none⟩ 1 1 [nPtr (wc.heap.size + 1)] rfl rfl (zq1 ((wc.alloc (.cells #[nPtr pc] 22)).alloc (zzk 13 s 0 (.slice (some ⟨wc.heap.size, 0, none⟩) 1 1))) (wc.heap.size + 1) _ (by simp)) (zxv _) (by decide) (by simp [maxLen]) (by simp) (by simp; omega) (wc.heap.size + 3) (by simp) ?_
  intro g cap w3 hown3 hgr3 hg3 _; refine hK _ _ ?_; clear hK K
  have HEV := qh (Open.push2 (x := .mk 13 s 0 [b2]) HOn.out (HOP.out.apart2 HSZ.out qv (NAts.cons (zb2 (zhx HHY.out.nd HHY.out.sz (by simp [maxLen]) #[nPtr pc] rfl 1 rfl 13 s 0 _ rfl).nv) NAts.nil)) rfl hown3 hgr3 (hg3.imp id fun e => by rw [e]; simp))
  have HBW : ∀ v, Hid (Below w.heap.size wc (w3.setCell ⟨w.heap.size, 3, none⟩ v)) := fun v => HHY.out.op.grows ((((Below.refl _ wc).alloc hsz _).alloc (by simp; omega) _).alloc (by simp; omega) _) (by simp; omega) hgr3
  have hB3 : Below wc.heap.size wc _ := (((Below.refl wc.heap.size wc).alloc qv (.cells #[nPtr pc] 22)).alloc (by simp) (zzk 13 s 0 (.slice (some ⟨wc.heap.size, 0, none⟩) 1 1))).alloc (by simp <;> omega) (.cells #[nPtr (wc.heap.size + 1)] 22)
  have hbb : w3.heap[w.heap.size]? = wc.heap[w.heap.size]? := (hgr3.block w.heap.size (by simp; omega) (fun e => HHY.out.op.own e.symm)).trans (hB3.block w.heap.size gcl)
  have HNW : ∀ v, Hid ((w3.setCell ⟨w.heap.size, 3, none⟩ v).heap[w.heap.size]? = some (zzk 12 zzx 0 v)) := fun v => by
   show _ = _
   rw [zz8 (hbb.trans HHY.out.op.blk)]; rfl
  have hp3 : w3.cell? ⟨w.heap.size, 3, none⟩ = wc.cell? ⟨w.heap.size, 3, none⟩ ∧ w3.frozen? ⟨w.heap.size, 3, none⟩ = wc.frozen? ⟨w.heap.size, 3, none⟩ := ⟨World.cell?_of_block (w := wc) hbb, World.frozen?_of_block (w := wc) hbb⟩
  obtain ⟨hp3c, hp3f⟩ := hp3; rw [gc3] at hp3c; rw [gcf 3] at hp3f; clear hown3 hgr3 hg3 hB3 hbb; refine wt 14 (nPtr w.heap.size) ?_; refine wt 15 (.pointer (some ⟨w.heap.size, 3, none⟩)) ?_; refine wr1 16 fun K hK => ?_
  go_simp; refine hK _ _ ?_; clear hK K gc3 gcf gcl; refine wpAny_done (by kernel_rfl) ?_ _; go_simp; have HPC := qh (HHY.out.ps.ap (zzq (HBW (.slice (some ⟨g, 0, none⟩) 2 cap))) HLO.out)
  have HAC := qh (HHY.out.ap.trans (Ap.of (zzq (HBW (.slice (some ⟨g, 0, none⟩) 2 cap))))); obtain ⟨qs, hOq⟩ := Open.of_ev HEV.out (zzq (HNW (.slice (some ⟨g, 0, none⟩) 2 cap)))
  obtain ⟨q1, q2, rfl⟩ : ∃ q1 q2, qs = [q1, q2] := by
   have hql : qs.length = 2 := NAts.length _ _ hOq.kids
   match qs, hql with
   | [a, b], _ => exact ⟨a, b, rfl⟩
  have HOQ : Hid (Open w.heap.size (w3.setCell ⟨w.heap.size, 3, none⟩ (.slice (some ⟨g, 0, none⟩) 2 cap)) (.mk 12 zzx 0 [b, .mk 13 s 0 [b2]]) w.heap.size (.slice (some ⟨g, 0, none⟩) 2 cap) [q1, q2]) := hOq
  clear hOq HBW HNW hp3c hp3f HOP HP HA HSZ HOn HEV; have hq : r = .ok (.mk 12 zzx 0 [b, .mk 13 s 0 [b2]]) k4 := by
   have h1 := zzq HQ2; unfold zxw at h1; rw [if_neg hf0] at h1; exact h1
  subst hq; have HC9 := qh (zz1 c _ k4 zxz (by decide) hf0 HPC.out); clear hf0 HQ2; go_wp2_with fail; refine cm HC9.out ?_; rintro e wy ⟨rfl, hb⟩; have HA2 := qh (HAC.out.next (Ap.of hb))
  have HP2 := qh (HPC.out.later hb); have HO2 := qh (HOQ.out.stay (Ap.of hb) HLT.out); clear hb HC9; obtain ⟨z3, zf, zl⟩ := HO2.out.cell; go_wp2_with fail; go_ret; exact ⟨⟨_, rfl, HO2.out.nv⟩, HP2.out, HA2.out⟩
end Go.Proofs.YtoimgcjbcbhclaaGreatDoor.Old
namespace Go.Proofs.YtoimgcjbcbhclaaGreatDoor.Old
open Go.RowKit
set_option maxRecDepth 100000 in
set_option maxHeartbeats 4000000 in
theorem rst_try_f {c : PC} {F : Fns} (hF : RCt c F) (hN : ∃ k, FNx c.l k F) (hK : FOk F) (w : World) (d i : Nat) (r : PR Tr) (hd : d ≤ 30) (b : Tr) (j : Nat) (s : ByteArray) (k1 k2 k3 k4 : Nat) (b2 : Tr) (hf : fx c.l i = tTry) (hb0 : zq0 c.l F d (i + 1) = .ok b j) (hc0 : fx c.l j = zj5) (hr1 : zz0 c.l zxk (j + 1) = .ok () k1) (hr2 : zjq c.l k1 = .ok s k2) (hr3 : zz0 c.l zjy k2 = .ok () k3) (hr4 : zq0 c.l F d k3 = .ok b2 k4) (hf0 : fx c.l k4 = zxz) (hs : r = (zq0 c.l F d (i + 1)).bind fun b i1 => (zy3 c.l F d i1).bind fun cc i2 => (zxw c.l F d i2).bind fun f i3 => if cc.length + f.length = 0 then badF c.l 3 i3 else .ok (.mk 12 zzx 0 (b :: (cc ++ f))) i3) (ho : r ≠ .out) (h : Ps c w i 0 (-1)) :
  Calls Tryz.prog 111 #[pPtr c, .int .i64 (d : Int)] w (zj3 c w (NV w.heap.size) ZN r) := by
 have HLT := qh h.rlt
 have HLO := qh h.base.size
 have HO := qh ho
 have HF := qh hF
 have HNN := qh hN
 have HKK := qh hK
 have hdd : decide ((30 : Int) < (d : Int)) = false := decide_eq_false (by omega)
 have n0 : ¬ fx c.l i = zz4 := by rw [hf]; decide
 have n1 : ¬ fx c.l i = zz9 := by rw [hf]; decide
 have n2 : ¬ fx c.l i = zzw := by rw [hf]; decide
 have n3 : ¬ fx c.l i = tIf := by rw [hf]; decide
 have n4 : ¬ fx c.l i = zjz := by rw [hf]; decide
 have n5 : ¬ fx c.l i = zv0 := by rw [hf]; decide
 have HQ := qh hs
 clear hs
 have HS0 := qh (Stn.new h)
 have hc := zzy c (w.alloc nd0) i zz4 (by decide) HS0.out.ps
 rw [decide_eq_false n0] at hc
 have HC := qh hc
 clear hc
 clear h
 go_enter Tryz.func111, Tryz.ntmps111
 go_wp2_with fail
 refine cm HC.out ?_
 rintro e w1 ⟨rfl, hb⟩
 have HS1 := qh (HS0.out.below hb)
 clear hb HC HS0
 have HC := qh (zz1 c w1 i zz9 (by decide) n1 HS1.out.ps)
 go_wp2_with fail
 refine cm HC.out ?_
 rintro e w2 ⟨rfl, hb⟩
 have HS2 := qh (HS1.out.below hb)
 clear hb HC HS1
 have HC := qh (zz1 c w2 i zzw (by decide) n2 HS2.out.ps)
 go_wp2_with fail
 refine cm HC.out ?_
 rintro e w3 ⟨rfl, hb⟩
 have HS3 := qh (HS2.out.below hb)
 clear hb HC HS2
 have HC := qh (zz1 c w3 i tIf (by decide) n3 HS3.out.ps)
 go_wp2_with fail
 refine cm HC.out ?_
 rintro e w4 ⟨rfl, hb⟩
 have HS4 := qh (HS3.out.below hb)
 clear hb HC HS3
 have hc := zzy c w4 i zjz (by decide) HS4.out.ps
 rw [decide_eq_false n4] at hc
 have HC := qh hc
 clear hc
 go_wp2_with fail
 refine cm HC.out ?_
 rintro e w5 ⟨rfl, hb⟩
 have HS5 := qh (HS4.out.below hb)
 clear hb HC HS4
 have hc := zzy c w5 i zv0 (by decide) HS5.out.ps
 rw [decide_eq_false n5] at hc
 have HC := qh hc
 clear hc
 go_wp2_with fail
 refine cm HC.out ?_
 rintro e w6 ⟨rfl, hb⟩
 have HS6 := qh (HS5.out.below hb)
 clear hb HC HS5
 have HC := qh (zxq c w6 i tTry (by decide) hf HS6.out.ps)
 go_wp2_with fail
 refine cm HC.out ?_
 rintro e w7 ⟨rfl, hp, ha⟩
 have HS7 := qh (HS6.out.on HLT.out hp ha)
 clear hp ha HC HS6
 clear ho hF hN hK
 obtain ⟨i0, hi0, hz0, hz1, hz2⟩ := info_parts zk0
 have HK2 := qh (HS7.out.kind HLO.out 12)
 have hPN : c.P < w.heap.size := zzq HLT
 have nb := HS7.out.nd
 obtain ⟨c0, c1, c2, c3, cf⟩ := zzj nb
 have cf0 := cf 0
 have cf3 := cf 3
 have hnl := zzz nb
 clear nb
 have HQ1 : Hid (r = ((zz0 c.l zxk (j + 1)).bind fun _ i1 => (zjq c.l i1).bind fun s i2 => (zz0 c.l zjy i2).bind fun _ i3 => (zq0 c.l F d i3).bind fun b2 i4 => (zxw c.l F d i4).bind fun f i5 => .ok (.mk 12 zzx 0 (b :: .mk 13 s 0 [b2] :: f)) i5)) := by
  have h1 := zzq HQ; rw [hb0, zzv] at h1; unfold zy3 at h1; rw [if_pos hc0] at h1; rw [h1]
  cases zz0 c.l zxk (j + 1) with
  | out => rfl
  | bad er pl => rfl
  | ok x1 k1 =>
   simp only [zzv]
   cases zjq c.l k1 with
   | out => rfl
   | bad er pl => rfl
   | ok x2 k2 =>
    simp only [zzv]
    cases zz0 c.l zjy k2 with
    | out => rfl
    | bad er pl => rfl
    | ok x3 k3 =>
     simp only [zzv]
     cases zq0 c.l F d k3 with
     | out => rfl
     | bad er pl => rfl
     | ok x4 k4 =>
      simp only [zzv]
      cases zxw c.l F d k4 with
      | out => rfl
      | bad er pl => rfl
      | ok x5 k5 =>
       simp only [zzv]; rw [if_neg (by simp)]; rfl
 clear HQ
 have HC := qh (zx8 HF.out HNN.out HKK.out false _ d (i + 1) _ hd hb0.symm (by nofun) HK2.out.ps)
 clear hb0
 go_wp2_with fail
 refine cm HC.out ?_
 rintro e wv ⟨⟨v, rfl, q, rfl, hn⟩, hp2, ha2⟩
 have nb := (ha2.block _ (zzz HK2.out.nd) (by have := zzq HLT; omega)).trans HK2.out.nd
 clear c0 c1 c2 c3 cf cf0 cf3 hnl
 obtain ⟨c0, c1, c2, c3, cf⟩ := zzj nb
 have cf3 := cf 3
 have hnl := zzz nb
 have hA := HK2.out.ap.next ha2
 have HB : Hid (Below w.heap.size wv ((wv.setCell ⟨w.heap.size, 3, none⟩ (.slice (some ⟨wv.heap.size, 0, none⟩) 1 1)).alloc (.cells #[nPtr q] 22))) := ((Below.refl w.heap.size wv).setCell (p := ⟨w.heap.size, 3, none⟩) qv _).alloc (by simp; omega) _
 have HA := qh (hA.trans (Ap.of HB.out))
 have HP := qh (hp2.ap HB.out HLO.out)
 have HOP : Hid (Open w.heap.size ((wv.setCell ⟨w.heap.size, 3, none⟩ (.slice (some ⟨wv.heap.size, 0, none⟩) 1 1)).alloc (.cells #[nPtr q] 22)) (.mk 12 zzx 0 [b]) w.heap.size (.slice (some ⟨wv.heap.size, 0, none⟩) 1 1) [q]) := zm0 qv (zzz HK2.out.nd) (set1 wv w.heap.size _) (by simp) ha2.size (by rw [zz8 nb]; rfl) (NAts.cons hn NAts.nil) rfl #[nPtr q] rfl (by simp [maxLen])
 clear hp2 ha2 HC nb hA hn
 have hx := hc0
 have HC3 := qh (zxq c _ j zj5 (by decide) hx HP.out)
 clear hx
 go_wp2_with fail
 refine cm HC3.out ?_
 rintro e w6 ⟨rfl, hp6, ha6⟩
 replace HOP := qh (HOP.out.stay ha6 HLT.out)
 replace HA := qh (HA.out.next ha6)
 replace HP := qh hp6
 clear hp6 ha6 HC3
 clear c0 c1 c2 c3 cf cf3 hnl
 clear hc0
 have HC := qh (zx4 c w6 (j + 1) zxk (by decide) HP.out)
 go_wp2_with fail
 refine cm HC.out ?_
 intro e w8 hp
 rw [hr1] at hp
 obtain ⟨⟨v, rfl, rfl⟩, hp2, ha⟩ := hp
 clear HC
 replace HOP := qh (HOP.out.stay ha HLT.out)
 replace HA := qh (HA.out.next ha)
 replace HP := qh hp2
 clear hp2 ha
 have HC := qh (zvk c w8 k1 HP.out)
 go_wp2_with fail
 refine cm HC.out ?_
 intro e w9 hp
 rw [hr2] at hp
 obtain ⟨⟨v, rfl, rfl⟩, hp2, ha⟩ := hp
 clear HC
 replace HOP := qh (HOP.out.stay ha HLT.out)
 replace HA := qh (HA.out.next ha)
 replace HP := qh hp2
 clear hp2 ha
 have HC := qh (zx4 c w9 k2 zjy (by decide) HP.out)
 go_wp2_with fail
 refine cm HC.out ?_
 intro e wm hp
 rw [hr3] at hp
 obtain ⟨⟨v, rfl, rfl⟩, hp2, ha⟩ := hp
 clear HC
 replace HOP := qh (HOP.out.stay ha HLT.out)
 replace HA := qh (HA.out.next ha)
 replace HP := qh hp2
 clear hp2 ha
 obtain ⟨hc3, hcf, hcl⟩ := HOP.out.cell
 have HC := qh (zx8 HF.out HNN.out HKK.out false wm.drew d k3 _ hd hr4.symm (by nofun) HP.out.drew)
 have HQ2 : Hid (r = (zxw c.l F d k4).bind fun f i5 => .ok (.mk 12 zzx 0 (b :: .mk 13 s 0 [b2] :: f)) i5) := by
  have h1 := zzq HQ1; rw [hr1, zzv, hr2, zzv, hr3, zzv, hr4, zzv] at h1; exact h1
 clear HQ1 hr1 hr2 hr3 hr4
 go_wp2_with fail
 have HSZ := qh HA.out.size
 refine via2 (H := CallOk c w wm.heap.size (.mk 12 zzx 0 [b]) (.slice (some ⟨wv.heap.size, 0, none⟩) 1 1) [q] b2 k4) (G := ?G3) (fun CONT => ?_) ?_
 rotate_left
 ·
  refine wp_region_any (by kernel_rfl) ?_; change wpAny _ _ _ _ _ _ _ (World.drew _); refine wt 0 (nPtr w.heap.size) ?_; refine wt 1 (nPtr w.heap.size) ?_; refine wt 2 (nPtr w.heap.size) ?_
  refine wt 3 (.pointer (some ⟨w.heap.size, 3, none⟩)) ?_; refine wt 5 (.string s) ?_; refine wt 6 (pPtr c) ?_; refine wt 7 (.int .i64 (d : Int)) ?_; refine wr2 4 8 (fun K hK => ?_) fun K hK => ?_
  ·
   go_simp; refine hK _ _ ?_; clear hK K; refine wr1 8 fun K hK => ?_; go_simp; refine cm HC.out ?_; rintro e wc ⟨⟨vc, rfl, pc, rfl, hnc⟩, hpc, ha⟩; have HAc := qh (HA.out.drew.next ha)
   have HOc := qh (HOP.out.stay (((Ap.refl c.P wm.heap.size wm).drew).next ha) HLT.out); have HHY : Hid (CallOk _ _ _ _ _ _ _ _ wc pc) := CallOk.mk (Z := wm.heap.size) HAc.out hpc HOc.out (NAts.cons hnc NAts.nil) ha.size
   obtain ⟨gc3, gcf, gcl⟩ := HOc.out.cell; have gcl1 : w.heap.size < wc.heap.size + 1 := by omega
   have gcl2 : w.heap.size < wc.heap.size + 2 := by omega
   have gcl3 : w.heap.size < wc.heap.size + 1 + 1 := by omega
   clear ha hpc hnc; refine hK _ _ ?_; clear hK K; refine wr1 9 fun K hK => ?_; go_simp; refine hK _ _ ?_; clear hK K
   refine wt 10 (.agg #[.int .i64 13, .string s, .int .i64 0, .slice (some ⟨wc.heap.size, 0, none⟩) 1 1]) ?_; refine wr1 11 fun K hK => ?_; go_simp; refine hK _ _ ?_; clear hK K; refine wr1 12 fun K hK => ?_; go_simp
   refine hK _ _ ?_; clear hK K; refine zq9 (listed' := tf 13 4) (by kernel_rfl) rfl ?_; exact CONT wc pc HHY.out
  ·
   go_simp; refine cm HC.out ?_; rintro e wc ⟨⟨vc, rfl, pc, rfl, hnc⟩, hpc, ha⟩; have HAc := qh (HA.out.drew.next ha); have HOc := qh (HOP.out.stay (((Ap.refl c.P wm.heap.size wm).drew).next ha) HLT.out)
   have HHY : Hid (CallOk _ _ _ _ _ _ _ _ wc pc) := CallOk.mk (Z := wm.heap.size) HAc.out hpc HOc.out (NAts.cons hnc NAts.nil) ha.size; obtain ⟨gc3, gcf, gcl⟩ := HOc.out.cell
   have gcl1 : w.heap.size < wc.heap.size + 1 := by omega
   have gcl2 : w.heap.size < wc.heap.size + 2 := by omega
   have gcl3 : w.heap.size < wc.heap.size + 1 + 1 := by omega
   clear ha hpc hnc; refine hK _ _ ?_; clear hK K; refine wr2 4 9 (fun K hK => ?_) fun K hK => ?_
   ·
    go_simp; refine hK _ _ ?_; clear hK K; refine wr1 9 fun K hK => ?_; go_simp; refine hK _ _ ?_; clear hK K; refine wt 10 (.agg #[.int .i64 13, .string s, .int .i64 0, .slice (some ⟨wc.heap.size, 0, none⟩) 1 1]) ?_
    refine wr1 11 fun K hK => ?_; go_simp; refine hK _ _ ?_; clear hK K; refine wr1 12 fun K hK => ?_; go_simp; refine hK _ _ ?_; clear hK K; exact wz 13 4 (CONT wc pc HHY.out)
   ·
    go_simp; refine hK _ _ ?_; clear hK K; refine wt 10 (.agg #[.int .i64 13, .string s, .int .i64 0, .slice (some ⟨wc.heap.size, 0, none⟩) 1 1]) ?_; refine wr2 4 11 (fun K hK => ?_) fun K hK => ?_
    ·
     go_simp; refine hK _ _ ?_; clear hK K; refine wr1 11 fun K hK => ?_; go_simp; refine hK _ _ ?_; clear hK K; refine wr1 12 fun K hK => ?_; go_simp; refine hK _ _ ?_; clear hK K; exact wz 13 4 (CONT wc pc HHY.out)
    ·
     go_simp; refine hK _ _ ?_; clear hK K; refine wr2 4 12 (fun K hK => ?_) fun K hK => ?_
     ·
      go_simp; refine hK _ _ ?_; clear hK K; refine wr1 12 fun K hK => ?_; go_simp; refine hK _ _ ?_; clear hK K; exact wz 13 4 (CONT wc pc HHY.out)
     ·
      go_simp; refine hK _ _ ?_; clear hK K; refine wr1 4 fun K hK => ?_; go_simp; refine hK _ _ ?_; clear hK K; exact wz 13 4 (CONT wc pc HHY.out)
 ·
  intro wc pc hY; have HHY := qh hY; clear hY; obtain ⟨gc3, gcf, gcl⟩ := HHY.out.op.cell; have hsz := HHY.out.ap.size
  have HOn : Hid (Open w.heap.size ((wc.alloc (.cells #[nPtr pc] 22)).alloc (zzk 13 s 0 (.slice (some ⟨wc.heap.size, 0, none⟩) 1 1))) _ w.heap.size _ _) := (HHY.out.op.alloc (.cells #[nPtr pc] 22)).alloc (zzk 13 s 0 (.slice (some ⟨wc.heap.size, 0, none⟩) 1 1))
  refine wr1 13 fun K hK => ?_
  refine step_append_lies _ rfl _ _ 46 rfl w.heap.size 22 i0 (.pointer none) 1 8 Tryz.underlying46 hi0 hz0 hz1 hz2 rfl (by decide) _ _ _ rfl (HOn.out.row.alloc _) ⟨wc.heap.size + 2, 0, none⟩ 1 1 [nPtr (wc.heap.size + 1)] rfl rfl (zq1 ((wc.alloc (.cells #[nPtr pc] 22)).alloc (zzk 13 s 0 (.slice (some ⟨wc.heap.size, 0, none⟩) 1 1))) (wc.heap.size + 1) _ (by simp)) (zxv _) (by decide) (by simp [maxLen]) (by simp) (by simp; omega) (wc.heap.size + 3) (by simp) ?_
  intro g cap w3 hown3 hgr3 hg3 _; refine hK _ _ ?_; clear hK K
  have HEV := qh (Open.push2 (x := .mk 13 s 0 [b2]) HOn.out (HOP.out.apart2 HSZ.out qv (NAts.cons (zb2 (zhx HHY.out.nd HHY.out.sz (by simp [maxLen]) #[nPtr pc] rfl 1 rfl 13 s 0 _ rfl).nv) NAts.nil)) rfl hown3 hgr3 (hg3.imp id fun e => by rw [e]; simp))
  have HBW : ∀ v, Hid (Below w.heap.size wc (w3.setCell ⟨w.heap.size, 3, none⟩ v)) := fun v => HHY.out.op.grows ((((Below.refl _ wc).alloc hsz _).alloc (by simp; omega) _).alloc (by simp; omega) _) (by simp; omega) hgr3
  have hB3 : Below wc.heap.size wc _ := (((Below.refl wc.heap.size wc).alloc qv (.cells #[nPtr pc] 22)).alloc (by simp) (zzk 13 s 0 (.slice (some ⟨wc.heap.size, 0, none⟩) 1 1))).alloc (by simp <;> omega) (.cells #[nPtr (wc.heap.size + 1)] 22)
  have hbb : w3.heap[w.heap.size]? = wc.heap[w.heap.size]? := (hgr3.block w.heap.size (by simp; omega) (fun e => HHY.out.op.own e.symm)).trans (hB3.block w.heap.size gcl)
  have HNW : ∀ v, Hid ((w3.setCell ⟨w.heap.size, 3, none⟩ v).heap[w.heap.size]? = some (zzk 12 zzx 0 v)) := fun v => by
   show _ = _
   rw [zz8 (hbb.trans HHY.out.op.blk)]; rfl
  have hp3 : w3.cell? ⟨w.heap.size, 3, none⟩ = wc.cell? ⟨w.heap.size, 3, none⟩ ∧ w3.frozen? ⟨w.heap.size, 3, none⟩ = wc.frozen? ⟨w.heap.size, 3, none⟩ := ⟨World.cell?_of_block (w := wc) hbb, World.frozen?_of_block (w := wc) hbb⟩
  obtain ⟨hp3c, hp3f⟩ := hp3; rw [gc3] at hp3c; rw [gcf 3] at hp3f; clear hown3 hgr3 hg3 hB3 hbb; refine wt 14 (nPtr w.heap.size) ?_; refine wt 15 (.pointer (some ⟨w.heap.size, 3, none⟩)) ?_; refine wr1 16 fun K hK => ?_
  go_simp; refine hK _ _ ?_; clear hK K gc3 gcf gcl; refine wpAny_done (by kernel_rfl) ?_ _; go_simp; have HPC := qh (HHY.out.ps.ap (zzq (HBW (.slice (some ⟨g, 0, none⟩) 2 cap))) HLO.out)
  have HAC := qh (HHY.out.ap.trans (Ap.of (zzq (HBW (.slice (some ⟨g, 0, none⟩) 2 cap))))); obtain ⟨qs, hOq⟩ := Open.of_ev HEV.out (zzq (HNW (.slice (some ⟨g, 0, none⟩) 2 cap)))
  obtain ⟨q1, q2, rfl⟩ : ∃ q1 q2, qs = [q1, q2] := by
   have hql : qs.length = 2 := NAts.length _ _ hOq.kids
   match qs, hql with
   | [a, b], _ => exact ⟨a, b, rfl⟩
  have HOQ : Hid (Open w.heap.size (w3.setCell ⟨w.heap.size, 3, none⟩ (.slice (some ⟨g, 0, none⟩) 2 cap)) (.mk 12 zzx 0 [b, .mk 13 s 0 [b2]]) w.heap.size (.slice (some ⟨g, 0, none⟩) 2 cap) [q1, q2]) := hOq
  clear hOq HBW HNW hp3c hp3f HOP HP HA HSZ HOn HEV; have HQ3 : Hid (r = (zq0 c.l F d (k4 + 1)).bind fun b3 i6 => .ok (.mk 12 zzx 0 [b, .mk 13 s 0 [b2], .mk 14 zzx 0 [b3]]) i6) := by
   have h1 := zzq HQ2; unfold zxw at h1; rw [if_pos hf0] at h1; rw [h1]
   cases zq0 c.l F d (k4 + 1) <;> rfl
  have HC9 := qh (zxq c _ k4 zxz (by decide) hf0 HPC.out); clear hf0 HQ2 HHY hc3 hcf hcl; go_wp2_with fail; refine cm HC9.out ?_; rintro e wf ⟨rfl, hp6, ha6⟩; have HA := qh (HAC.out.next ha6)
  have HP := qh hp6; have HOP := qh (HOQ.out.stay ha6 HLT.out); clear hp6 ha6 HC9 HAC HPC HOQ; obtain ⟨hc3, hcf, hcl⟩ := HOP.out.cell
  cases hr : zq0 c.l F d (k4 + 1) with
  | out => rw [hr] at HQ3; exact absurd HQ3.out HO.out
  | bad er pl =>
   have HC := qh (zx8 HF.out HNN.out HKK.out false wf.drew d (k4 + 1) _ hd hr.symm (by nofun) HP.out.drew); rw [hr] at HQ3; have hq : r = .bad er pl := zzq HQ3; subst hq; clear hr HQ3; go_wp2_with fail
   refine via2 (H := CallBad c w (.mk 12 zzx 0 [b, .mk 13 s 0 [b2]]) (.slice (some ⟨g, 0, none⟩) 2 cap) [q1, q2] er pl) (G := ?G1) (fun CONT => ?_) ?_; rotate_left
   ·
    refine wp_region_any (by kernel_rfl) ?_; change wpAny _ _ _ _ _ _ _ (World.drew _); refine wt 0 (nPtr w.heap.size) ?_; refine wt 1 (nPtr w.heap.size) ?_; refine wt 2 (nPtr w.heap.size) ?_
    refine wt 3 (.pointer (some ⟨w.heap.size, 3, none⟩)) ?_; refine wt 5 (pPtr c) ?_; refine wt 6 (.int .i64 (d : Int)) ?_; refine wr2 4 7 (fun K hK => ?_) fun K hK => ?_
    ·
     go_simp; refine hK _ _ ?_; clear hK K; refine wr1 7 fun K hK => ?_; go_simp; refine cm HC.out ?_; rintro e wc ⟨⟨vc, rfl, pc, rfl⟩, hpc, he, ha⟩; have HAc := qh (HA.out.drew.next ha)
     have HOc := qh (HOP.out.stay (((Ap.refl c.P wf.heap.size wf).drew).next ha) HLT.out); have HHY : Hid (CallBad _ _ _ _ _ _ _ wc pc) := CallBad.mk HAc.out hpc HOc.out he; obtain ⟨gc3, gcf, gcl⟩ := HOc.out.cell
     have gcl1 : w.heap.size < wc.heap.size + 1 := by omega
     have gcl2 : w.heap.size < wc.heap.size + 2 := by omega
     have gcl3 : w.heap.size < wc.heap.size + 1 + 1 := by omega
     clear ha hpc; refine hK _ _ ?_; clear hK K; refine wr1 8 fun K hK => ?_; go_simp; refine hK _ _ ?_; clear hK K
     refine wt 9 (.agg #[.int .i64 14, .string zzx, .int .i64 0, .slice (some ⟨wc.heap.size, 0, none⟩) 1 1]) ?_; refine wr1 10 fun K hK => ?_; go_simp; refine hK _ _ ?_; clear hK K; refine wr1 11 fun K hK => ?_; go_simp
     refine hK _ _ ?_; clear hK K; refine zq9 (listed' := tf 12 4) (by kernel_rfl) rfl ?_; exact CONT wc pc HHY.out
    ·
     go_simp; refine cm HC.out ?_; rintro e wc ⟨⟨vc, rfl, pc, rfl⟩, hpc, he, ha⟩; have HAc := qh (HA.out.drew.next ha); have HOc := qh (HOP.out.stay (((Ap.refl c.P wf.heap.size wf).drew).next ha) HLT.out)
     have HHY : Hid (CallBad _ _ _ _ _ _ _ wc pc) := CallBad.mk HAc.out hpc HOc.out he; obtain ⟨gc3, gcf, gcl⟩ := HOc.out.cell; have gcl1 : w.heap.size < wc.heap.size + 1 := by omega
     have gcl2 : w.heap.size < wc.heap.size + 2 := by omega
     have gcl3 : w.heap.size < wc.heap.size + 1 + 1 := by omega
     clear ha hpc; refine hK _ _ ?_; clear hK K; refine wr2 4 8 (fun K hK => ?_) fun K hK => ?_
     ·
      go_simp; refine hK _ _ ?_; clear hK K; refine wr1 8 fun K hK => ?_; go_simp; refine hK _ _ ?_; clear hK K; refine wt 9 (.agg #[.int .i64 14, .string zzx, .int .i64 0, .slice (some ⟨wc.heap.size, 0, none⟩) 1 1]) ?_
      refine wr1 10 fun K hK => ?_; go_simp; refine hK _ _ ?_; clear hK K; refine wr1 11 fun K hK => ?_; go_simp; refine hK _ _ ?_; clear hK K; exact wz 12 4 (CONT wc pc HHY.out)
     ·
      go_simp; refine hK _ _ ?_; clear hK K; refine wt 9 (.agg #[.int .i64 14, .string zzx, .int .i64 0, .slice (some ⟨wc.heap.size, 0, none⟩) 1 1]) ?_; refine wr2 4 10 (fun K hK => ?_) fun K hK => ?_
      ·
       go_simp; refine hK _ _ ?_; clear hK K; refine wr1 10 fun K hK => ?_; go_simp; refine hK _ _ ?_; clear hK K; refine wr1 11 fun K hK => ?_; go_simp; refine hK _ _ ?_; clear hK K; exact wz 12 4 (CONT wc pc HHY.out)
      ·
       go_simp; refine hK _ _ ?_; clear hK K; refine wr2 4 11 (fun K hK => ?_) fun K hK => ?_
       ·
        go_simp; refine hK _ _ ?_; clear hK K; refine wr1 11 fun K hK => ?_; go_simp; refine hK _ _ ?_; clear hK K; exact wz 12 4 (CONT wc pc HHY.out)
       ·
        go_simp; refine hK _ _ ?_; clear hK K; refine wr1 4 fun K hK => ?_; go_simp; refine hK _ _ ?_; clear hK K; exact wz 12 4 (CONT wc pc HHY.out)
   ·
    intro wc pc hY; have HHY := qh hY; clear hY; obtain ⟨gc3, gcf, gcl⟩ := HHY.out.op.cell; have hsz := HHY.out.ap.size
    have HOn : Hid (Open w.heap.size ((wc.alloc (.cells #[nPtr pc] 22)).alloc (zzk 14 zzx 0 (.slice (some ⟨wc.heap.size, 0, none⟩) 1 1))) _ w.heap.size _ _) := (HHY.out.op.alloc (.cells #[nPtr pc] 22)).alloc (zzk 14 zzx 0 (.slice (some ⟨wc.heap.size, 0, none⟩) 1 1))
    refine wr1 12 fun K hK => ?_
    refine step_append_lies _ rfl _ _ 46 rfl w.heap.size 22 i0 (.pointer none) 1 8 Tryz.underlying46 hi0 hz0 hz1 hz2 rfl (by decide) _ _ _ rfl (HOn.out.row.alloc _) ⟨wc.heap.size + 2, 0, none⟩ 1 1 [nPtr (wc.heap.size + 1)] rfl rfl (zq1 ((wc.alloc (.cells #[nPtr pc] 22)).alloc (zzk 14 zzx 0 (.slice (some ⟨wc.heap.size, 0, none⟩) 1 1))) (wc.heap.size + 1) _ (by simp)) (zxv _) (by decide) (by simp [maxLen]) (by simp) (by simp; omega) (wc.heap.size + 3) (by simp) ?_
    intro g cap w3 hown3 hgr3 hg3 _; refine hK _ _ ?_; clear hK K
    have HBW : ∀ v, Hid (Below w.heap.size wc (w3.setCell ⟨w.heap.size, 3, none⟩ v)) := fun v => HHY.out.op.grows ((((Below.refl _ wc).alloc hsz _).alloc (by simp; omega) _).alloc (by simp; omega) _) (by simp; omega) hgr3
    have hB3 : Below wc.heap.size wc _ := (((Below.refl wc.heap.size wc).alloc qv (.cells #[nPtr pc] 22)).alloc (by simp) (zzk 14 zzx 0 (.slice (some ⟨wc.heap.size, 0, none⟩) 1 1))).alloc (by simp <;> omega) (.cells #[nPtr (wc.heap.size + 1)] 22)
    have hbb : w3.heap[w.heap.size]? = wc.heap[w.heap.size]? := (hgr3.block w.heap.size (by simp; omega) (fun e => HHY.out.op.own e.symm)).trans (hB3.block w.heap.size gcl)
    have HNW : ∀ v, Hid ((w3.setCell ⟨w.heap.size, 3, none⟩ v).heap[w.heap.size]? = some (zzk 12 zzx 0 v)) := fun v => by
     show _ = _
     rw [zz8 (hbb.trans HHY.out.op.blk)]; rfl
    have hp3 : w3.cell? ⟨w.heap.size, 3, none⟩ = wc.cell? ⟨w.heap.size, 3, none⟩ ∧ w3.frozen? ⟨w.heap.size, 3, none⟩ = wc.frozen? ⟨w.heap.size, 3, none⟩ := ⟨World.cell?_of_block (w := wc) hbb, World.frozen?_of_block (w := wc) hbb⟩
    obtain ⟨hp3c, hp3f⟩ := hp3; rw [gc3] at hp3c; rw [gcf 3] at hp3f; clear hown3 hgr3 hg3 hB3 hbb; refine wt 13 (nPtr w.heap.size) ?_; refine wt 14 (.pointer (some ⟨w.heap.size, 3, none⟩)) ?_; refine wr1 15 fun K hK => ?_
    go_simp; refine hK _ _ ?_; clear hK K gc3 gcf gcl; refine wpAny_done (by kernel_rfl) ?_ _; go_simp; obtain ⟨jc, hpc⟩ := HHY.out.ps; have HPC := qh hpc; clear hpc; go_wp2_with fail; go_ret
    exact ⟨⟨_, rfl, _, rfl⟩, ⟨jc, HPC.out.ap (zzq (HBW _)) HLO.out⟩, HHY.out.he, HHY.out.ap.trans (Ap.of (zzq (HBW _)))⟩
  | ok b3 k6 =>
   have HC := qh (zx8 HF.out HNN.out HKK.out false wf.drew d (k4 + 1) _ hd hr.symm (by nofun) HP.out.drew); rw [hr] at HQ3
   have hq : r = .ok (.mk 12 zzx 0 [b, .mk 13 s 0 [b2], .mk 14 zzx 0 [b3]]) k6 := zzq HQ3; subst hq; clear hr HQ3; go_wp2_with fail; have HSZ := qh HA.out.size
   refine via2 (H := CallOk c w wf.heap.size (.mk 12 zzx 0 [b, .mk 13 s 0 [b2]]) (.slice (some ⟨g, 0, none⟩) 2 cap) [q1, q2] b3 k6) (G := ?G2) (fun CONT => ?_) ?_; rotate_left
   ·
    refine wp_region_any (by kernel_rfl) ?_; change wpAny _ _ _ _ _ _ _ (World.drew _); refine wt 0 (nPtr w.heap.size) ?_; refine wt 1 (nPtr w.heap.size) ?_; refine wt 2 (nPtr w.heap.size) ?_
    refine wt 3 (.pointer (some ⟨w.heap.size, 3, none⟩)) ?_; refine wt 5 (pPtr c) ?_; refine wt 6 (.int .i64 (d : Int)) ?_; refine wr2 4 7 (fun K hK => ?_) fun K hK => ?_
    ·
     go_simp; refine hK _ _ ?_; clear hK K; refine wr1 7 fun K hK => ?_; go_simp; refine cm HC.out ?_; rintro e wc ⟨⟨vc, rfl, pc, rfl, hnc⟩, hpc, ha⟩; have HAc := qh (HA.out.drew.next ha)
     have HOc := qh (HOP.out.stay (((Ap.refl c.P wf.heap.size wf).drew).next ha) HLT.out)
     have HHY : Hid (CallOk _ _ _ _ _ _ _ _ wc pc) := CallOk.mk (Z := wf.heap.size) HAc.out hpc HOc.out (NAts.cons hnc NAts.nil) ha.size; obtain ⟨gc3, gcf, gcl⟩ := HOc.out.cell
     have gcl1 : w.heap.size < wc.heap.size + 1 := by omega
     have gcl2 : w.heap.size < wc.heap.size + 2 := by omega
     have gcl3 : w.heap.size < wc.heap.size + 1 + 1 := by omega
     clear ha hpc hnc; refine hK _ _ ?_; clear hK K; refine wr1 8 fun K hK => ?_; go_simp; refine hK _ _ ?_; clear hK K
     refine wt 9 (.agg #[.int .i64 14, .string zzx, .int .i64 0, .slice (some ⟨wc.heap.size, 0, none⟩) 1 1]) ?_; refine wr1 10 fun K hK => ?_; go_simp; refine hK _ _ ?_; clear hK K; refine wr1 11 fun K hK => ?_; go_simp
     refine hK _ _ ?_; clear hK K; refine zq9 (listed' := tf 12 4) (by kernel_rfl) rfl ?_; exact CONT wc pc HHY.out
    ·
     go_simp; refine cm HC.out ?_; rintro e wc ⟨⟨vc, rfl, pc, rfl, hnc⟩, hpc, ha⟩; have HAc := qh (HA.out.drew.next ha); have HOc := qh (HOP.out.stay (((Ap.refl c.P wf.heap.size wf).drew).next ha) HLT.out)
     have HHY : Hid (CallOk _ _ _ _ _ _ _ _ wc pc) := CallOk.mk (Z := wf.heap.size) HAc.out hpc HOc.out (NAts.cons hnc NAts.nil) ha.size; obtain ⟨gc3, gcf, gcl⟩ := HOc.out.cell
     have gcl1 : w.heap.size < wc.heap.size + 1 := by omega
     have gcl2 : w.heap.size < wc.heap.size + 2 := by omega
     have gcl3 : w.heap.size < wc.heap.size + 1 + 1 := by omega
     clear ha hpc hnc; refine hK _ _ ?_; clear hK K; refine wr2 4 8 (fun K hK => ?_) fun K hK => ?_
     ·
      go_simp; refine hK _ _ ?_; clear hK K; refine wr1 8 fun K hK => ?_; go_simp; refine hK _ _ ?_; clear hK K; refine wt 9 (.agg #[.int .i64 14, .string zzx, .int .i64 0, .slice (some ⟨wc.heap.size, 0, none⟩) 1 1]) ?_
      refine wr1 10 fun K hK => ?_; go_simp; refine hK _ _ ?_; clear hK K; refine wr1 11 fun K hK => ?_; go_simp; refine hK _ _ ?_; clear hK K; exact wz 12 4 (CONT wc pc HHY.out)
     ·
      go_simp; refine hK _ _ ?_; clear hK K; refine wt 9 (.agg #[.int .i64 14, .string zzx, .int .i64 0, .slice (some ⟨wc.heap.size, 0, none⟩) 1 1]) ?_; refine wr2 4 10 (fun K hK => ?_) fun K hK => ?_
      ·
       go_simp; refine hK _ _ ?_; clear hK K; refine wr1 10 fun K hK => ?_; go_simp; refine hK _ _ ?_; clear hK K; refine wr1 11 fun K hK => ?_; go_simp; refine hK _ _ ?_; clear hK K; exact wz 12 4 (CONT wc pc HHY.out)
      ·
       go_simp; refine hK _ _ ?_; clear hK K; refine wr2 4 11 (fun K hK => ?_) fun K hK => ?_
       ·
        go_simp; refine hK _ _ ?_; clear hK K; refine wr1 11 fun K hK => ?_; go_simp; refine hK _ _ ?_; clear hK K; exact wz 12 4 (CONT wc pc HHY.out)
       ·
        go_simp; refine hK _ _ ?_; clear hK K; refine wr1 4 fun K hK => ?_; go_simp; refine hK _ _ ?_; clear hK K; exact wz 12 4 (CONT wc pc HHY.out)
   ·
    intro wc pc hY; have HHY := qh hY; clear hY; obtain ⟨gc3, gcf, gcl⟩ := HHY.out.op.cell; have hsz := HHY.out.ap.size
    have HOn : Hid (Open w.heap.size ((wc.alloc (.cells #[nPtr pc] 22)).alloc (zzk 14 zzx 0 (.slice (some ⟨wc.heap.size, 0, none⟩) 1 1))) _ w.heap.size _ _) := (HHY.out.op.alloc (.cells #[nPtr pc] 22)).alloc (zzk 14 zzx 0 (.slice (some ⟨wc.heap.size, 0, none⟩) 1 1))
    refine wr1 12 fun K hK => ?_
    refine step_append_lies _ rfl _ _ 46 rfl w.heap.size 22 i0 (.pointer none) 1 8 Tryz.underlying46 hi0 hz0 hz1 hz2 rfl (by decide) _ _ _ rfl (HOn.out.row.alloc _) ⟨wc.heap.size + 2, 0, none⟩ 1 1 [nPtr (wc.heap.size + 1)] rfl rfl (zq1 ((wc.alloc (.cells #[nPtr pc] 22)).alloc (zzk 14 zzx 0 (.slice (some ⟨wc.heap.size, 0, none⟩) 1 1))) (wc.heap.size + 1) _ (by simp)) (zxv _) (by decide) (by simp [maxLen]) (by simp) (by simp; omega) (wc.heap.size + 3) (by simp) ?_
    intro g cap w3 hown3 hgr3 hg3 _; refine hK _ _ ?_; clear hK K
    have HEV := qh (Open.push2 (x := .mk 14 zzx 0 [b3]) HOn.out (HOP.out.apart2 HSZ.out qv (NAts.cons (zb2 (zhx HHY.out.nd HHY.out.sz (by simp [maxLen]) #[nPtr pc] rfl 1 rfl 14 zzx 0 _ rfl).nv) NAts.nil)) rfl hown3 hgr3 (hg3.imp id fun e => by rw [e]; simp))
    have HBW : ∀ v, Hid (Below w.heap.size wc (w3.setCell ⟨w.heap.size, 3, none⟩ v)) := fun v => HHY.out.op.grows ((((Below.refl _ wc).alloc hsz _).alloc (by simp; omega) _).alloc (by simp; omega) _) (by simp; omega) hgr3
    have hB3 : Below wc.heap.size wc _ := (((Below.refl wc.heap.size wc).alloc qv (.cells #[nPtr pc] 22)).alloc (by simp) (zzk 14 zzx 0 (.slice (some ⟨wc.heap.size, 0, none⟩) 1 1))).alloc (by simp <;> omega) (.cells #[nPtr (wc.heap.size + 1)] 22)
    have hbb : w3.heap[w.heap.size]? = wc.heap[w.heap.size]? := (hgr3.block w.heap.size (by simp; omega) (fun e => HHY.out.op.own e.symm)).trans (hB3.block w.heap.size gcl)
    have HNW : ∀ v, Hid ((w3.setCell ⟨w.heap.size, 3, none⟩ v).heap[w.heap.size]? = some (zzk 12 zzx 0 v)) := fun v => by
     show _ = _
     rw [zz8 (hbb.trans HHY.out.op.blk)]; rfl
    have hp3 : w3.cell? ⟨w.heap.size, 3, none⟩ = wc.cell? ⟨w.heap.size, 3, none⟩ ∧ w3.frozen? ⟨w.heap.size, 3, none⟩ = wc.frozen? ⟨w.heap.size, 3, none⟩ := ⟨World.cell?_of_block (w := wc) hbb, World.frozen?_of_block (w := wc) hbb⟩
    obtain ⟨hp3c, hp3f⟩ := hp3; rw [gc3] at hp3c; rw [gcf 3] at hp3f; clear hown3 hgr3 hg3 hB3 hbb; refine wt 13 (nPtr w.heap.size) ?_; refine wt 14 (.pointer (some ⟨w.heap.size, 3, none⟩)) ?_; refine wr1 15 fun K hK => ?_
    go_simp; refine hK _ _ ?_; clear hK K gc3 gcf gcl; refine wpAny_done (by kernel_rfl) ?_ _; go_simp; go_wp2_with fail; go_ret
    exact ⟨⟨_, rfl, HEV.out.nv⟩, HHY.out.ps.ap (zzq (HBW _)) HLO.out, HHY.out.ap.trans (Ap.of (zzq (HBW _)))⟩
end Go.Proofs.YtoimgcjbcbhclaaGreatDoor.Old
