/-
  The document's parser: a declaration (const).
-/
import Derived.Test.YtoimgcjbcbhclaaGreatDoorRn26
namespace Go.Proofs.YtoimgcjbcbhclaaGreatDoor.Old
open Go.RowKit
set_option maxRecDepth 100000 in
set_option maxHeartbeats 4000000 in
theorem rst_const {c : PC} {F : Fns} (hF : RCt c F) (hN : ∃ k, FNx c.l k F) (hK : FOk F) (w : World) (d i : Nat) (r : PR Tr) (hd : d ≤ 30) (hf : fx c.l i = zqw) (hs : r = zf0 c.l F d i) (ho : r ≠ .out) (h : Ps c w i 0 (-1)) :
  Calls Tryz.prog 111 #[pPtr c, .int .i64 (d : Int)] w (zj3 c w (NV w.heap.size) ZN r) := by
 have HLT := qh h.rlt
 have HLO := qh h.base.size
 have HO := qh ho
 have HF := qh hF
 have HNN := qh hN
 have HKK := qh hK
 have hdd : decide ((30 : Int) < (d : Int)) = false := decide_eq_false (by omega)
 have n0 : ¬ fx c.l i = zz4 := by rw [hf]; decide
 have n1 : ¬ fx c.l i = zz9 := by rw [hf]; decide
 have n2 : ¬ fx c.l i = zzw := by rw [hf]; decide
 have n3 : ¬ fx c.l i = tIf := by rw [hf]; decide
 have n4 : ¬ fx c.l i = zjz := by rw [hf]; decide
 have n5 : ¬ fx c.l i = zv0 := by rw [hf]; decide
 have n6 : ¬ fx c.l i = tTry := by rw [hf]; decide
 have n7 : ¬ fx c.l i = tVar := by rw [hf]; decide
 have n8 : ¬ fx c.l i = tLet := by rw [hf]; decide
 have HQ := qh hs
 clear hs
 have HS0 := qh (Stn.new h)
 have hc := zzy c (w.alloc nd0) i zz4 (by decide) HS0.out.ps
 rw [decide_eq_false n0] at hc
 have HC := qh hc
 clear hc
 clear h
 go_enter Tryz.func111, Tryz.ntmps111
 go_wp2_with fail
 refine cm HC.out ?_
 rintro e w1 ⟨rfl, hb⟩
 have HS1 := qh (HS0.out.below hb)
 clear hb HC HS0
 have HC := qh (zz1 c w1 i zz9 (by decide) n1 HS1.out.ps)
 go_wp2_with fail
 refine cm HC.out ?_
 rintro e w2 ⟨rfl, hb⟩
 have HS2 := qh (HS1.out.below hb)
 clear hb HC HS1
 have HC := qh (zz1 c w2 i zzw (by decide) n2 HS2.out.ps)
 go_wp2_with fail
 refine cm HC.out ?_
 rintro e w3 ⟨rfl, hb⟩
 have HS3 := qh (HS2.out.below hb)
 clear hb HC HS2
 have HC := qh (zz1 c w3 i tIf (by decide) n3 HS3.out.ps)
 go_wp2_with fail
 refine cm HC.out ?_
 rintro e w4 ⟨rfl, hb⟩
 have HS4 := qh (HS3.out.below hb)
 clear hb HC HS3
 have hc := zzy c w4 i zjz (by decide) HS4.out.ps
 rw [decide_eq_false n4] at hc
 have HC := qh hc
 clear hc
 go_wp2_with fail
 refine cm HC.out ?_
 rintro e w5 ⟨rfl, hb⟩
 have HS5 := qh (HS4.out.below hb)
 clear hb HC HS4
 have hc := zzy c w5 i zv0 (by decide) HS5.out.ps
 rw [decide_eq_false n5] at hc
 have HC := qh hc
 clear hc
 go_wp2_with fail
 refine cm HC.out ?_
 rintro e w6 ⟨rfl, hb⟩
 have HS6 := qh (HS5.out.below hb)
 clear hb HC HS5
 have HC := qh (zz1 c w6 i tTry (by decide) n6 HS6.out.ps)
 go_wp2_with fail
 refine cm HC.out ?_
 rintro e w7 ⟨rfl, hb⟩
 have HS7 := qh (HS6.out.below hb)
 clear hb HC HS6
 have hc := zzy c w7 i tVar (by decide) HS7.out.ps
 rw [decide_eq_false n7] at hc
 have HC := qh hc
 clear hc
 go_wp2_with fail
 refine cm HC.out ?_
 rintro e w8 ⟨rfl, hb⟩
 have HS8 := qh (HS7.out.below hb)
 clear hb HC HS7
 have hc := zzy c w8 i tLet (by decide) HS8.out.ps
 rw [decide_eq_false n8] at hc
 have HC := qh hc
 clear hc
 go_wp2_with fail
 refine cm HC.out ?_
 rintro e w9 ⟨rfl, hb⟩
 have HS9 := qh (HS8.out.below hb)
 clear hb HC HS8
 have hc := zzy c w9 i zqw (by decide) HS9.out.ps
 rw [decide_eq_true hf] at hc
 have HC := qh hc
 clear hc
 go_wp2_with fail
 refine cm HC.out ?_
 rintro e w10 ⟨rfl, hb⟩
 have HS10 := qh (HS9.out.below hb)
 clear hb HC HS9
 clear ho hF hN hK
 have nb := HS10.out.nd
 obtain ⟨c0, c1, c2, c3, cf⟩ := zzj nb
 have cf0 := cf 0
 have cf3 := cf 3
 have hnl := zzz nb
 clear nb
 have x0 := HS10.out.ps.c0
 have x1 := HS10.out.ps.c1
 have xf := HS10.out.ps.fz 1
 have hR := HS10.out.ps.rlt
 have hT := HS10.out.ps.base.tlt
 obtain ⟨k0, k1, k2, k3⟩ := HS10.out.ps.toks
 have hlt : (i : Int) < (c.l.length : Int) := by have := HS10.out.ps.lt; omega
 go_wp2_with fail
 have HS9 := HS10
 obtain ⟨W0, hW0⟩ : ∃ W0, W0 = w10.drew := ⟨_, rfl⟩
 have hS0 : TokS c w10 W0 := by rw [hW0]; exact ⟨rfl, rfl⟩
 have hz0 : W0.heap.size = w10.heap.size := by rw [hW0]; rfl
 have y0 : W0.cell? ⟨w.heap.size, 0, none⟩ = some (.int .i64 0) := by rw [hW0]; exact c0
 have yf : W0.frozen? ⟨w.heap.size, 0, none⟩ = false := by rw [hW0]; exact cf0
 have hSA : ∀ o, TokS c w10 (W0.alloc o) := fun o => hS0.alloc (by omega) (by omega) o
 have hPN : c.P ≠ w.heap.size := by have := zzq HLT; omega
 have hTN : c.tb ≠ w.heap.size := by have h1 := HS10.out.ps.base.old; have h2 := zzq HLO; omega
 have hSB : ∀ o, TokS c w10 ((W0.setCell ⟨w.heap.size, 0, none⟩ (.int .i64 4)).alloc o) := fun o => (hS0.set hPN hTN).alloc (by simp; omega) (by simp; omega) o
 have htx : (tkA c.l i).tx = zqw := ((fx_is (by decide)).1 hf).2
 have hkk : dcK zqw = 4 := by decide +kernel
 have hnl0 : w.heap.size < W0.heap.size := by omega
 have hHK : zk9 (tkA c.l i).tx = 4 := by rw [htx]; decide +kernel
 have HST : ∀ o, Hid (Stk c w 4 i ((W0.setCell ⟨w.heap.size, 0, none⟩ (.int .i64 4)).alloc o)) := fun o => HS10.out.decl HLO.out hW0 o 4
 have HQ1 : Hid (r = (zjq c.l (i + 1)).bind fun s i1 => if ¬ fx c.l i1 = tEq then badF c.l 3 i1 else if fx c.l i1 = tEq then (zq2 c.l F.vl d (i1 + 1)).bind fun v i2 => (zz0 c.l zz9 i2).bind fun _ i3 => .ok (.mk 4 s 0 [v]) i3 else (zz0 c.l zz9 i1).bind fun _ i2 => .ok (.mk 4 s 0 []) i2) := by
  have h1 := zzq HQ; unfold zf0 at h1; rw [hHK] at h1; simp only [true_and] at h1; exact h1
 have HHL := qh (zbz HS10.out.ps.base.ends HS10.out.ps.lt hf (by decide))
 have HHL3 := qh HS10.out.ps.base.len
 clear HQ hHK hz0 c0 c1 c2 c3 cf cf0 cf3 HS9 hf n0 n1 n2 n3 n4 n5 n6 n7 n8
 have HW0 := qh hW0
 clear hW0
 refine viaM (G := ?G1) (fun CONT => ?_) ?_
 rotate_left
 ·
  refine wp_region_held (S := TokS c w10) (by kernel_rfl) ?_; change wpAnyH _ _ _ _ _ _ _ _ (World.drew _); rw [← HW0.out]
  obtain ⟨ma, mb, mc, mab, mac, mba, mbc, mca, mcb, mabc, macb, mbac, mbca, mcab, mcba, e0, ea, eb, ec, eab, eac, eba, ebc, eca, ecb, eabc, eacb, ebac, ebca, ecab, ecba, labc, lacb, lbac, lbca, lcab, lcba⟩ := decl_made W0
  refine wh 0 (nPtr w.heap.size) hS0 ?_; refine wh 6 (pPtr c) hS0 ?_; refine wh 7 (pPtr c) hS0 ?_; refine wh 8 (.pointer (some ⟨c.P, 0, none⟩)) hS0 ?_
  refine wg 9 (.slice (some ⟨c.tb, 0, none⟩) c.l.length c.cap) rfl (Or.inl ⟨by kernel_rfl, fun W hW => by have hh := (TokS.cell hW 0).trans x0; go_simp⟩) hS0 ?_
  refine wh 10 (pPtr c) hS0 ?_; refine wh 11 (pPtr c) hS0 ?_; refine wh 12 (.pointer (some ⟨c.P, 1, none⟩)) hS0 ?_
  refine wg 13 (.int .i64 (i : Int)) rfl (Or.inl ⟨by kernel_rfl, fun W hW => by have hh := (TokS.cell hW 1).trans x1; go_simp⟩) hS0 ?_
  refine wh 14 (.pointer (some ⟨c.tb, i * 4, none⟩)) hS0 ?_; refine wh 15 (.pointer (some ⟨c.tb, i * 4 + 1, none⟩)) hS0 ?_
  refine wg 16 (.string zqw) rfl (Or.inl ⟨by kernel_rfl, fun W hW => by have hh := (TokS.tok hW (i * 4 + 1)).trans (k1.trans (by rw [htx])); go_simp⟩) hS0 ?_
  refine wq1 1 fun K hK => ?_; go_simp; refine hK _ _ (hSA _) (fun _ => ?_); clear hK K
  refine wpAnyH_ready (rs := [2, 3, 4]) (by kernel_rfl) (by simp) (AllReadyH.cons rfl (fun K hK => ?_) (AllReadyH.cons rfl (fun K hK => ?_) (AllReadyH.cons rfl (fun K hK => ?_) AllReadyH.nil)))
  ·
   go_simp; refine hK _ _ (hSA _) (fun _ => ?_); clear hK K; refine wpAnyH_ready (rs := [3, 4]) (by kernel_rfl) (by simp) (AllReadyH.cons rfl (fun K hK => ?_) (AllReadyH.cons rfl (fun K hK => ?_) AllReadyH.nil))
   ·
    go_simp; refine hK _ _ (hSA _) (fun _ => ?_); clear hK K; refine wq1 4 fun K hK => ?_; go_simp; refine hK _ _ (hSA _) (fun _ => ?_); clear hK K; refine wh 5 (.map (some W0.heap.size)) (hSA _) ?_; have el := labc zqw
    rw [hkk] at el; refine wq1 17 fun K hK => ?_; go_simp; refine hK _ _ (hSA _) (fun _ => ?_); clear hK K; refine wh 18 (nPtr w.heap.size) (hSA _) ?_; refine wh 19 (.pointer (some ⟨w.heap.size, 0, none⟩)) (hSA _) ?_
    have z0 : (W0.alloc (.map mabc 3)).cell? ⟨w.heap.size, 0, none⟩ = some (.int .i64 0) := by rw [World.cell?_alloc_past _ _ _ hnl0]; exact y0
    have zf : (W0.alloc (.map mabc 3)).frozen? ⟨w.heap.size, 0, none⟩ = false := by rw [World.frozen?_of_block (w := W0) (Below.heap_alloc W0 _ _ hnl0)]; exact yf
    refine wq1 20 fun K hK => ?_; go_simp; refine hK _ _ (hSB _) (fun _ => ?_); clear hK K z0 zf el; refine wpAnyH_done (by kernel_rfl) ?_ _; go_simp; exact CONT mabc
   ·
    go_simp; refine hK _ _ (hSA _) (fun _ => ?_); clear hK K; refine wq1 3 fun K hK => ?_; go_simp; refine hK _ _ (hSA _) (fun _ => ?_); clear hK K; refine wh 5 (.map (some W0.heap.size)) (hSA _) ?_; have el := lacb zqw
    rw [hkk] at el; refine wq1 17 fun K hK => ?_; go_simp; refine hK _ _ (hSA _) (fun _ => ?_); clear hK K; refine wh 18 (nPtr w.heap.size) (hSA _) ?_; refine wh 19 (.pointer (some ⟨w.heap.size, 0, none⟩)) (hSA _) ?_
    have z0 : (W0.alloc (.map macb 3)).cell? ⟨w.heap.size, 0, none⟩ = some (.int .i64 0) := by rw [World.cell?_alloc_past _ _ _ hnl0]; exact y0
    have zf : (W0.alloc (.map macb 3)).frozen? ⟨w.heap.size, 0, none⟩ = false := by rw [World.frozen?_of_block (w := W0) (Below.heap_alloc W0 _ _ hnl0)]; exact yf
    refine wq1 20 fun K hK => ?_; go_simp; refine hK _ _ (hSB _) (fun _ => ?_); clear hK K z0 zf el; refine wpAnyH_done (by kernel_rfl) ?_ _; go_simp; exact CONT macb
  ·
   go_simp; refine hK _ _ (hSA _) (fun _ => ?_); clear hK K; refine wpAnyH_ready (rs := [2, 4]) (by kernel_rfl) (by simp) (AllReadyH.cons rfl (fun K hK => ?_) (AllReadyH.cons rfl (fun K hK => ?_) AllReadyH.nil))
   ·
    go_simp; refine hK _ _ (hSA _) (fun _ => ?_); clear hK K; refine wq1 4 fun K hK => ?_; go_simp; refine hK _ _ (hSA _) (fun _ => ?_); clear hK K; refine wh 5 (.map (some W0.heap.size)) (hSA _) ?_; have el := lbac zqw
    rw [hkk] at el; refine wq1 17 fun K hK => ?_; go_simp; refine hK _ _ (hSA _) (fun _ => ?_); clear hK K; refine wh 18 (nPtr w.heap.size) (hSA _) ?_; refine wh 19 (.pointer (some ⟨w.heap.size, 0, none⟩)) (hSA _) ?_
    have z0 : (W0.alloc (.map mbac 3)).cell? ⟨w.heap.size, 0, none⟩ = some (.int .i64 0) := by rw [World.cell?_alloc_past _ _ _ hnl0]; exact y0
    have zf : (W0.alloc (.map mbac 3)).frozen? ⟨w.heap.size, 0, none⟩ = false := by rw [World.frozen?_of_block (w := W0) (Below.heap_alloc W0 _ _ hnl0)]; exact yf
    refine wq1 20 fun K hK => ?_; go_simp; refine hK _ _ (hSB _) (fun _ => ?_); clear hK K z0 zf el; refine wpAnyH_done (by kernel_rfl) ?_ _; go_simp; exact CONT mbac
   ·
    go_simp; refine hK _ _ (hSA _) (fun _ => ?_); clear hK K; refine wq1 2 fun K hK => ?_; go_simp; refine hK _ _ (hSA _) (fun _ => ?_); clear hK K; refine wh 5 (.map (some W0.heap.size)) (hSA _) ?_; have el := lbca zqw
    rw [hkk] at el; refine wq1 17 fun K hK => ?_; go_simp; refine hK _ _ (hSA _) (fun _ => ?_); clear hK K; refine wh 18 (nPtr w.heap.size) (hSA _) ?_; refine wh 19 (.pointer (some ⟨w.heap.size, 0, none⟩)) (hSA _) ?_
    have z0 : (W0.alloc (.map mbca 3)).cell? ⟨w.heap.size, 0, none⟩ = some (.int .i64 0) := by rw [World.cell?_alloc_past _ _ _ hnl0]; exact y0
    have zf : (W0.alloc (.map mbca 3)).frozen? ⟨w.heap.size, 0, none⟩ = false := by rw [World.frozen?_of_block (w := W0) (Below.heap_alloc W0 _ _ hnl0)]; exact yf
    refine wq1 20 fun K hK => ?_; go_simp; refine hK _ _ (hSB _) (fun _ => ?_); clear hK K z0 zf el; refine wpAnyH_done (by kernel_rfl) ?_ _; go_simp; exact CONT mbca
  ·
   go_simp; refine hK _ _ (hSA _) (fun _ => ?_); clear hK K; refine wpAnyH_ready (rs := [2, 3]) (by kernel_rfl) (by simp) (AllReadyH.cons rfl (fun K hK => ?_) (AllReadyH.cons rfl (fun K hK => ?_) AllReadyH.nil))
   ·
    go_simp; refine hK _ _ (hSA _) (fun _ => ?_); clear hK K; refine wq1 3 fun K hK => ?_; go_simp; refine hK _ _ (hSA _) (fun _ => ?_); clear hK K; refine wh 5 (.map (some W0.heap.size)) (hSA _) ?_; have el := lcab zqw
    rw [hkk] at el; refine wq1 17 fun K hK => ?_; go_simp; refine hK _ _ (hSA _) (fun _ => ?_); clear hK K; refine wh 18 (nPtr w.heap.size) (hSA _) ?_; refine wh 19 (.pointer (some ⟨w.heap.size, 0, none⟩)) (hSA _) ?_
    have z0 : (W0.alloc (.map mcab 3)).cell? ⟨w.heap.size, 0, none⟩ = some (.int .i64 0) := by rw [World.cell?_alloc_past _ _ _ hnl0]; exact y0
    have zf : (W0.alloc (.map mcab 3)).frozen? ⟨w.heap.size, 0, none⟩ = false := by rw [World.frozen?_of_block (w := W0) (Below.heap_alloc W0 _ _ hnl0)]; exact yf
    refine wq1 20 fun K hK => ?_; go_simp; refine hK _ _ (hSB _) (fun _ => ?_); clear hK K z0 zf el; refine wpAnyH_done (by kernel_rfl) ?_ _; go_simp; exact CONT mcab
   ·
    go_simp; refine hK _ _ (hSA _) (fun _ => ?_); clear hK K; refine wq1 2 fun K hK => ?_; go_simp; refine hK _ _ (hSA _) (fun _ => ?_); clear hK K; refine wh 5 (.map (some W0.heap.size)) (hSA _) ?_; have el := lcba zqw
    rw [hkk] at el; refine wq1 17 fun K hK => ?_; go_simp; refine hK _ _ (hSA _) (fun _ => ?_); clear hK K; refine wh 18 (nPtr w.heap.size) (hSA _) ?_; refine wh 19 (.pointer (some ⟨w.heap.size, 0, none⟩)) (hSA _) ?_
    have z0 : (W0.alloc (.map mcba 3)).cell? ⟨w.heap.size, 0, none⟩ = some (.int .i64 0) := by rw [World.cell?_alloc_past _ _ _ hnl0]; exact y0
    have zf : (W0.alloc (.map mcba 3)).frozen? ⟨w.heap.size, 0, none⟩ = false := by rw [World.frozen?_of_block (w := W0) (Below.heap_alloc W0 _ _ hnl0)]; exact yf
    refine wq1 20 fun K hK => ?_; go_simp; refine hK _ _ (hSB _) (fun _ => ?_); clear hK K z0 zf el; refine wpAnyH_done (by kernel_rfl) ?_ _; go_simp; exact CONT mcba
 ·
  intro m; obtain ⟨W1, hW1⟩ : ∃ W1, W1 = (W0.setCell ⟨w.heap.size, 0, none⟩ (.int .i64 4)).alloc (.map m 3) := ⟨_, rfl⟩; have HK1 : Hid (Stk c w 4 i W1) := by rw [hW1]; exact zzq (HST _)
  rw [← hW1]; clear hW1 HST hSA hSB hS0 x0 x1 xf hR hT k0 k1 k2 k3 y0 yf hnl0 hkk htx; have hl := zzq HHL; have hl3 := zzq HHL3; have x1 := HK1.out.ps.c1; have xf := HK1.out.ps.fz 1; have hR := HK1.out.ps.rlt
  have HK2 := qh (HK1.out.stepped HLT.out hl); have HC := qh (zvk c _ (i + 1) HK2.out.ps); go_wp2_with fail; refine cm HC.out ?_; intro e wi hp; clear HC x1 xf hR
  cases hr : zjq c.l (i + 1) with
  | out => rw [hr] at HQ1; exact absurd HQ1.out HO.out
  | bad er pl =>
   rw [hr] at hp HQ1; have hq : r = .bad er pl := zzq HQ1; subst hq; obtain ⟨⟨v, rfl, s, rfl⟩, ⟨j, hp1⟩, he, ha⟩ := hp; have nb := (ha.block _ (zzz HK2.out.nd) (by have := zzq HLT; omega)).trans HK2.out.nd
   obtain ⟨c0, c1, c2, c3, cf⟩ := zzj nb; have cf1 := cf 1; have hnl := zzz nb
   have hbw : Below w.heap.size wi (wi.setCell ⟨w.heap.size, 1, none⟩ (.string s)) := (Below.refl w.heap.size wi).setCell (p := ⟨w.heap.size, 1, none⟩) qv _
   have HA := qh ((HK2.out.ap.next ha).trans (Ap.of hbw)); have HP := qh (hp1.ap hbw HLO.out)
   have nb2 : (wi.setCell ⟨w.heap.size, 1, none⟩ (.string s)).heap[w.heap.size]? = some (zzk 4 s 0 (.slice none 0 0)) := by rw [zz8 nb]; rfl
   obtain ⟨d0, d1, d2, d3, df⟩ := zzj nb2; have hnl2 := zzz nb2; have HC3 := qh (zvj he HP.out); have HC4 := qh (zv3 c _ j er pl he tEq HP.out); clear hp1 ha hr HQ1 nb nb2 hbw; go_wp2_with fail
   refine cm HC3.out ?_; rintro e wo ⟨rfl, rfl⟩; clear HC3; go_wp2_with fail; refine cm HC4.out ?_; rintro e wz ⟨rfl, hb⟩; have HA9 := qh (HA.out.next (Ap.of hb)); have HP9 := qh (HP.out.later hb)
   have HC5 := qh (zx9 c wz j er pl he zz9 HP9.out); clear hb HC4 c0 c1 c2 c3 cf cf1 hnl d0 d1 d2 d3 df hnl2; go_wp2_with fail; refine cm HC5.out ?_; rintro e wy ⟨rfl, rfl⟩; clear HC5; go_wp2_with fail; go_ret
   exact ⟨⟨_, rfl, _, rfl⟩, ⟨j, HP9.out⟩, he, HA9.out⟩
  | ok s j =>
   rw [hr] at hp HQ1
   have HQ2 : Hid (r = if ¬ fx c.l j = tEq then badF c.l 3 j else if fx c.l j = tEq then (zq2 c.l F.vl d (j + 1)).bind fun v i2 => (zz0 c.l zz9 i2).bind fun _ i3 => .ok (.mk 4 s 0 [v]) i3 else (zz0 c.l zz9 j).bind fun _ i2 => .ok (.mk 4 s 0 []) i2) := zzq HQ1
   obtain ⟨⟨v, rfl, rfl⟩, hp1, ha⟩ := hp; have HK3 := qh (HK2.out.on HLT.out hp1 ha); have HX := qh (HK3.out.text HLO.out s); have nb := HK3.out.nd; obtain ⟨c0, c1, c2, c3, cf⟩ := zzj nb; have cf1 := cf 1
   have hnl := zzz nb; obtain ⟨d0, d1, d2, d3, df⟩ := zzj HX.out.nd; have hnl2 := zzz HX.out.nd; clear hp1 ha hr HQ1 nb HK1 HK2; have HC3 := qh (zk8 HX.out.ps)
   have hc := zzy c _ j tEq (by decide) HX.out.ps
   by_cases hx : fx c.l j = tEq
   ·
    rw [if_neg (fun h => h hx), if_pos hx] at HQ2; rw [decide_eq_true hx] at hc; have HC4 := qh hc; have HEQ := qh hx; clear hc hx; go_wp2_with fail; refine cm HC3.out ?_; rintro e wo ⟨rfl, rfl⟩; clear HC3
    go_wp2_with fail; refine cm HC4.out ?_; rintro e wn ⟨rfl, hb⟩; have HY := qh (HX.out.below hb); clear hb HC4 c0 c1 c2 c3 cf cf1 hnl d0 d1 d2 d3 df hnl2
    have HC4 := qh (zxq c _ j tEq (by decide) HEQ.out HY.out.ps); go_wp2_with fail; refine cm HC4.out ?_; rintro e ws ⟨rfl, hp6, ha6⟩; have HZ := qh (HY.out.on HLT.out hp6 ha6); clear hp6 ha6 HC4
    cases hr : zq2 c.l F.vl d (j + 1) with
    | out => rw [hr] at HQ2; exact absurd HQ2.out HO.out
    | bad er pl =>
     have HC := qh (HF.out.vl ws d (j + 1) _ hd hr.symm (by nofun) HZ.out.ps); rw [hr] at HQ2; have hq : r = .bad er pl := zzq HQ2; subst hq; clear hr HQ2; go_wp2_with fail; refine cm HC.out ?_
     rintro e wv ⟨⟨v, rfl, q, rfl⟩, ⟨j2, hp1⟩, he, ha⟩; have nb := (ha.block _ (zzz HZ.out.nd) (by have := zzq HLT; omega)).trans HZ.out.nd
     obtain ⟨c0, c1, c2, c3, cf⟩ := zzj nb; have cf3 := cf 3; have hnl := zzz nb; have hA := HZ.out.ap.next ha
     have HB : Hid (Below w.heap.size wv ((wv.setCell ⟨w.heap.size, 3, none⟩ (.slice (some ⟨wv.heap.size, 0, none⟩) 1 1)).alloc (.cells #[nPtr q] 22))) := ((Below.refl w.heap.size wv).setCell (p := ⟨w.heap.size, 3, none⟩) qv _).alloc (by simp; omega) _
     have HA := qh (hA.trans (Ap.of HB.out)); have HP := qh (hp1.ap HB.out HLO.out); have HC2 := qh (zx9 c _ j2 er pl he zz9 HP.out); clear hp1 ha HC nb hA; go_wp2_with fail; refine cm HC2.out ?_
     rintro e wz ⟨rfl, rfl⟩; clear HC2; go_wp2_with fail; go_ret; exact ⟨⟨_, rfl, _, rfl⟩, ⟨j2, HP.out⟩, he, HA.out⟩
    | ok t j3 =>
     have HC := qh (HF.out.vl ws d (j + 1) _ hd hr.symm (by nofun) HZ.out.ps); rw [hr] at HQ2; have hq : r = (zz0 c.l zz9 j3).bind fun _ i2 => .ok (.mk 4 s 0 [t]) i2 := zzq HQ2; have HQ3 := qh hq
     clear hr HQ2 hq; go_wp2_with fail; refine cm HC.out ?_; rintro e wv ⟨⟨v, rfl, q, rfl, hn⟩, hp1, ha⟩; have nb := (ha.block _ (zzz HZ.out.nd) (by have := zzq HLT; omega)).trans HZ.out.nd
     obtain ⟨c0, c1, c2, c3, cf⟩ := zzj nb; have cf3 := cf 3; have hnl := zzz nb; have hA := HZ.out.ap.next ha
     have HB : Hid (Below w.heap.size wv ((wv.setCell ⟨w.heap.size, 3, none⟩ (.slice (some ⟨wv.heap.size, 0, none⟩) 1 1)).alloc (.cells #[nPtr q] 22))) := ((Below.refl w.heap.size wv).setCell (p := ⟨w.heap.size, 3, none⟩) qv _).alloc (by simp; omega) _
     have HA := qh (hA.trans (Ap.of HB.out)); have HP := qh (hp1.ap HB.out HLO.out)
     have HN : Hid (NV w.heap.size ((wv.setCell ⟨w.heap.size, 3, none⟩ (.slice (some ⟨wv.heap.size, 0, none⟩) 1 1)).alloc (.cells #[nPtr q] 22)) (.mk 4 s 0 [t]) (nPtr w.heap.size)) := znj qv (zzz HZ.out.nd) (set1 wv w.heap.size _) (by simp) ha.size (by rw [zz8 nb]; rfl) (NAts.cons hn NAts.nil) rfl #[nPtr q] rfl (by simp [maxLen])
     have HC2 := qh (zx4 c _ j3 zz9 (by decide) HP.out); have HQ2 := HQ3; clear hp1 ha HC nb hA hn HQ3; go_wp2_with fail; refine cm HC2.out ?_; intro e wz hp
     cases hr2 : zz0 c.l zz9 j3 with
     | out => rw [hr2] at HQ2; exact absurd HQ2.out HO.out
     | bad er pl =>
      rw [hr2] at hp HQ2; have hq : r = .bad er pl := zzq HQ2; subst hq; obtain ⟨⟨v, rfl, rfl⟩, hp2, he, ha2⟩ := hp; have HP2 := qh hp2; have HA2 := qh (HA.out.next ha2); clear hp2 ha2 HC2 hr2; go_wp2_with fail
      go_ret; exact ⟨⟨_, rfl, _, rfl⟩, HP2.out, he, HA2.out⟩
     | ok x j2 =>
      rw [hr2] at hp HQ2; have hq : r = .ok (.mk 4 s 0 [t]) j2 := zzq HQ2; subst hq; obtain ⟨⟨v, rfl, rfl⟩, hp2, ha2⟩ := hp; have HP2 := qh hp2; have HA2 := qh (HA.out.next ha2)
      have HN2 := qh (NV.later HN.out ha2 HLT.out); clear hp2 ha2 HC2 hr2; go_wp2_with fail; go_ret; exact ⟨⟨_, rfl, HN2.out⟩, HP2.out, HA2.out⟩
   ·
    rw [if_pos hx] at HQ2; rw [decide_eq_false hx] at hc; have HC4 := qh hc; have hq : r = .bad 3 (tkA c.l j).pl := zzq HQ2; subst hq; clear hc hx; go_wp2_with fail; refine cm HC3.out ?_; rintro e wo ⟨rfl, rfl⟩
    clear HC3; go_wp2_with fail; refine cm HC4.out ?_; rintro e wn ⟨rfl, hb⟩; have HY := qh (HX.out.below hb); have HC5 := qh (zwz c wn j 3 (by decide) HY.out.ps)
    clear hb HC4 c0 c1 c2 c3 cf cf1 hnl d0 d1 d2 d3 df hnl2; go_wp2_with fail; refine cm HC5.out ?_; rintro e wq ⟨⟨v, rfl, q, rfl⟩, ⟨j2, hp2⟩, he, ha⟩; have HA := qh (HY.out.ap.next ha); have HP := qh hp2
    have HC6 := qh (zv3 c wq j2 _ _ he tEq hp2); clear hp2 ha HC5; go_wp2_with fail; refine cm HC6.out ?_; rintro e wz ⟨rfl, hb⟩; have HA9 := qh (HA.out.next (Ap.of hb)); have HP9 := qh (HP.out.later hb)
    have HC7 := qh (zx9 c wz j2 _ _ he zz9 HP9.out); clear hb HC6; go_wp2_with fail; refine cm HC7.out ?_; rintro e wy ⟨rfl, rfl⟩; clear HC7; go_wp2_with fail; go_ret
    exact ⟨⟨_, rfl, _, rfl⟩, ⟨j2, HP9.out⟩, he, HA9.out⟩
end Go.Proofs.YtoimgcjbcbhclaaGreatDoor.Old
namespace Go.Proofs.YtoimgcjbcbhclaaGreatDoor.Old
open Go.RowKit
set_option maxRecDepth 100000 in
set_option maxHeartbeats 4000000 in
theorem rst_try_a {c : PC} {F : Fns} (hF : RCt c F) (hN : ∃ k, FNx c.l k F) (hK : FOk F) (w : World) (d i : Nat) (r : PR Tr) (hd : d ≤ 30) (er : Int) (pl : Nat) (hf : fx c.l i = tTry) (hb0 : zq0 c.l F d (i + 1) = .bad er pl) (hs : r = (zq0 c.l F d (i + 1)).bind fun b i1 => (zy3 c.l F d i1).bind fun cc i2 => (zxw c.l F d i2).bind fun f i3 => if cc.length + f.length = 0 then badF c.l 3 i3 else .ok (.mk 12 zzx 0 (b :: (cc ++ f))) i3) (ho : r ≠ .out) (h : Ps c w i 0 (-1)) :
  Calls Tryz.prog 111 #[pPtr c, .int .i64 (d : Int)] w (zj3 c w (NV w.heap.size) ZN r) := by
 have HLT := qh h.rlt
 have HLO := qh h.base.size
 have HO := qh ho
 have HF := qh hF
 have HNN := qh hN
 have HKK := qh hK
 have hdd : decide ((30 : Int) < (d : Int)) = false := decide_eq_false (by omega)
 have n0 : ¬ fx c.l i = zz4 := by rw [hf]; decide
 have n1 : ¬ fx c.l i = zz9 := by rw [hf]; decide
 have n2 : ¬ fx c.l i = zzw := by rw [hf]; decide
 have n3 : ¬ fx c.l i = tIf := by rw [hf]; decide
 have n4 : ¬ fx c.l i = zjz := by rw [hf]; decide
 have n5 : ¬ fx c.l i = zv0 := by rw [hf]; decide
 have HQ := qh hs
 clear hs
 have HS0 := qh (Stn.new h)
 have hc := zzy c (w.alloc nd0) i zz4 (by decide) HS0.out.ps
 rw [decide_eq_false n0] at hc
 have HC := qh hc
 clear hc
 clear h
 go_enter Tryz.func111, Tryz.ntmps111
 go_wp2_with fail
 refine cm HC.out ?_
 rintro e w1 ⟨rfl, hb⟩
 have HS1 := qh (HS0.out.below hb)
 clear hb HC HS0
 have HC := qh (zz1 c w1 i zz9 (by decide) n1 HS1.out.ps)
 go_wp2_with fail
 refine cm HC.out ?_
 rintro e w2 ⟨rfl, hb⟩
 have HS2 := qh (HS1.out.below hb)
 clear hb HC HS1
 have HC := qh (zz1 c w2 i zzw (by decide) n2 HS2.out.ps)
 go_wp2_with fail
 refine cm HC.out ?_
 rintro e w3 ⟨rfl, hb⟩
 have HS3 := qh (HS2.out.below hb)
 clear hb HC HS2
 have HC := qh (zz1 c w3 i tIf (by decide) n3 HS3.out.ps)
 go_wp2_with fail
 refine cm HC.out ?_
 rintro e w4 ⟨rfl, hb⟩
 have HS4 := qh (HS3.out.below hb)
 clear hb HC HS3
 have hc := zzy c w4 i zjz (by decide) HS4.out.ps
 rw [decide_eq_false n4] at hc
 have HC := qh hc
 clear hc
 go_wp2_with fail
 refine cm HC.out ?_
 rintro e w5 ⟨rfl, hb⟩
 have HS5 := qh (HS4.out.below hb)
 clear hb HC HS4
 have hc := zzy c w5 i zv0 (by decide) HS5.out.ps
 rw [decide_eq_false n5] at hc
 have HC := qh hc
 clear hc
 go_wp2_with fail
 refine cm HC.out ?_
 rintro e w6 ⟨rfl, hb⟩
 have HS6 := qh (HS5.out.below hb)
 clear hb HC HS5
 have HC := qh (zxq c w6 i tTry (by decide) hf HS6.out.ps)
 go_wp2_with fail
 refine cm HC.out ?_
 rintro e w7 ⟨rfl, hp, ha⟩
 have HS7 := qh (HS6.out.on HLT.out hp ha)
 clear hp ha HC HS6
 clear ho hF hN hK
 obtain ⟨i0, hi0, hz0, hz1, hz2⟩ := info_parts zk0
 have HK2 := qh (HS7.out.kind HLO.out 12)
 have hPN : c.P < w.heap.size := zzq HLT
 have nb := HS7.out.nd
 obtain ⟨c0, c1, c2, c3, cf⟩ := zzj nb
 have cf0 := cf 0
 have cf3 := cf 3
 have hnl := zzz nb
 clear nb
 have hq : r = .bad er pl := by have h1 := zzq HQ; rw [hb0] at h1; exact h1
 subst hq
 clear HQ
 have HC := qh (zx8 HF.out HNN.out HKK.out false _ d (i + 1) _ hd hb0.symm (by nofun) HK2.out.ps)
 clear hb0
 go_wp2_with fail
 refine cm HC.out ?_
 rintro e wv ⟨⟨v, rfl, q, rfl⟩, ⟨j2, hp2⟩, he, ha2⟩
 have nb := (ha2.block _ (zzz HK2.out.nd) (by have := zzq HLT; omega)).trans HK2.out.nd
 clear c0 c1 c2 c3 cf cf0 cf3 hnl
 obtain ⟨c0, c1, c2, c3, cf⟩ := zzj nb
 have cf3 := cf 3
 have hnl := zzz nb
 have hA := HK2.out.ap.next ha2
 have HB : Hid (Below w.heap.size wv ((wv.setCell ⟨w.heap.size, 3, none⟩ (.slice (some ⟨wv.heap.size, 0, none⟩) 1 1)).alloc (.cells #[nPtr q] 22))) := ((Below.refl w.heap.size wv).setCell (p := ⟨w.heap.size, 3, none⟩) qv _).alloc (by simp; omega) _
 have HA := qh (hA.trans (Ap.of HB.out))
 have HP := qh (hp2.ap HB.out HLO.out)
 have HNB : Hid (((wv.setCell ⟨w.heap.size, 3, none⟩ (.slice (some ⟨wv.heap.size, 0, none⟩) 1 1)).alloc (.cells #[nPtr q] 22)).heap[w.heap.size]? = some (zzk 12 zzx 0 (.slice (some ⟨wv.heap.size, 0, none⟩) 1 1))) := by
  show _ = _
  rw [Below.heap_alloc _ _ _ (by simp; omega), zz8 nb]
  rfl
 clear hp2 ha2 HC nb hA
 have HC3 := qh (zv3 c _ j2 _ _ he zj5 HP.out)
 go_wp2_with fail
 refine cm HC3.out ?_
 rintro e wx ⟨rfl, hb⟩
 have HA1 := qh (HA.out.next (Ap.of hb))
 have HP1 := qh (HP.out.later hb)
 have HN1 := qh ((hb.block _ (zzz HNB.out)).trans HNB.out)
 clear hb HC3 HA HP HNB
 have HC4 := qh (zv3 c _ j2 _ _ he zxz HP1.out)
 clear c0 c1 c2 c3 cf cf3 hnl
 go_wp2_with fail
 refine cm HC4.out ?_
 rintro e wy ⟨rfl, hb⟩
 have HA2 := qh (HA1.out.next (Ap.of hb))
 have HP2 := qh (HP1.out.later hb)
 have nb := (hb.block _ (zzz HN1.out)).trans HN1.out
 clear hb HC4 HA1 HP1 HN1
 obtain ⟨c0, c1, c2, c3, cf⟩ := zzj nb
 have hnl := zzz nb
 clear nb
 have HC5 := qh (rfail_old c wy j2 _ _ 3 he HP2.out)
 go_wp2_with fail
 refine cm HC5.out ?_
 rintro e wz ⟨⟨v, rfl, q2, rfl⟩, hp3, _, ha3⟩
 have HA3 := qh (HA2.out.next ha3)
 have HP3 := qh hp3
 clear hp3 ha3 HC5 c0 c1 c2 c3 cf hnl
 go_wp2_with fail
 go_ret
 exact ⟨⟨_, rfl, _, rfl⟩, HP3.out, he, HA3.out⟩
end Go.Proofs.YtoimgcjbcbhclaaGreatDoor.Old
namespace Go.Proofs.YtoimgcjbcbhclaaGreatDoor.Old
open Go.RowKit
set_option maxRecDepth 100000 in
set_option maxHeartbeats 4000000 in
theorem rst_try_b {c : PC} {F : Fns} (hF : RCt c F) (hN : ∃ k, FNx c.l k F) (hK : FOk F) (w : World) (d i : Nat) (r : PR Tr) (hd : d ≤ 30) (b : Tr) (j : Nat) (hf : fx c.l i = tTry) (hb0 : zq0 c.l F d (i + 1) = .ok b j) (hc0 : ¬ fx c.l j = zj5) (hf0 : ¬ fx c.l j = zxz) (hs : r = (zq0 c.l F d (i + 1)).bind fun b i1 => (zy3 c.l F d i1).bind fun cc i2 => (zxw c.l F d i2).bind fun f i3 => if cc.length + f.length = 0 then badF c.l 3 i3 else .ok (.mk 12 zzx 0 (b :: (cc ++ f))) i3) (ho : r ≠ .out) (h : Ps c w i 0 (-1)) :
  Calls Tryz.prog 111 #[pPtr c, .int .i64 (d : Int)] w (zj3 c w (NV w.heap.size) ZN r) := by
 have HLT := qh h.rlt
 have HLO := qh h.base.size
 have HO := qh ho
 have HF := qh hF
 have HNN := qh hN
 have HKK := qh hK
 have hdd : decide ((30 : Int) < (d : Int)) = false := decide_eq_false (by omega)
 have n0 : ¬ fx c.l i = zz4 := by rw [hf]; decide
 have n1 : ¬ fx c.l i = zz9 := by rw [hf]; decide
 have n2 : ¬ fx c.l i = zzw := by rw [hf]; decide
 have n3 : ¬ fx c.l i = tIf := by rw [hf]; decide
 have n4 : ¬ fx c.l i = zjz := by rw [hf]; decide
 have n5 : ¬ fx c.l i = zv0 := by rw [hf]; decide
 have HQ := qh hs
 clear hs
 have HS0 := qh (Stn.new h)
 have hc := zzy c (w.alloc nd0) i zz4 (by decide) HS0.out.ps
 rw [decide_eq_false n0] at hc
 have HC := qh hc
 clear hc
 clear h
 go_enter Tryz.func111, Tryz.ntmps111
 go_wp2_with fail
 refine cm HC.out ?_
 rintro e w1 ⟨rfl, hb⟩
 have HS1 := qh (HS0.out.below hb)
 clear hb HC HS0
 have HC := qh (zz1 c w1 i zz9 (by decide) n1 HS1.out.ps)
 go_wp2_with fail
 refine cm HC.out ?_
 rintro e w2 ⟨rfl, hb⟩
 have HS2 := qh (HS1.out.below hb)
 clear hb HC HS1
 have HC := qh (zz1 c w2 i zzw (by decide) n2 HS2.out.ps)
 go_wp2_with fail
 refine cm HC.out ?_
 rintro e w3 ⟨rfl, hb⟩
 have HS3 := qh (HS2.out.below hb)
 clear hb HC HS2
 have HC := qh (zz1 c w3 i tIf (by decide) n3 HS3.out.ps)
 go_wp2_with fail
 refine cm HC.out ?_
 rintro e w4 ⟨rfl, hb⟩
 have HS4 := qh (HS3.out.below hb)
 clear hb HC HS3
 have hc := zzy c w4 i zjz (by decide) HS4.out.ps
 rw [decide_eq_false n4] at hc
 have HC := qh hc
 clear hc
 go_wp2_with fail
 refine cm HC.out ?_
 rintro e w5 ⟨rfl, hb⟩
 have HS5 := qh (HS4.out.below hb)
 clear hb HC HS4
 have hc := zzy c w5 i zv0 (by decide) HS5.out.ps
 rw [decide_eq_false n5] at hc
 have HC := qh hc
 clear hc
 go_wp2_with fail
 refine cm HC.out ?_
 rintro e w6 ⟨rfl, hb⟩
 have HS6 := qh (HS5.out.below hb)
 clear hb HC HS5
 have HC := qh (zxq c w6 i tTry (by decide) hf HS6.out.ps)
 go_wp2_with fail
 refine cm HC.out ?_
 rintro e w7 ⟨rfl, hp, ha⟩
 have HS7 := qh (HS6.out.on HLT.out hp ha)
 clear hp ha HC HS6
 clear ho hF hN hK
 obtain ⟨i0, hi0, hz0, hz1, hz2⟩ := info_parts zk0
 have HK2 := qh (HS7.out.kind HLO.out 12)
 have hPN : c.P < w.heap.size := zzq HLT
 have nb := HS7.out.nd
 obtain ⟨c0, c1, c2, c3, cf⟩ := zzj nb
 have cf0 := cf 0
 have cf3 := cf 3
 have hnl := zzz nb
 clear nb
 have hq : r = .bad 3 (tkA c.l j).pl := by
  have h1 := zzq HQ; rw [hb0, zzv] at h1; unfold zy3 at h1; rw [if_neg hc0, zzv] at h1; unfold zxw at h1; rw [if_neg hf0, zzv] at h1; exact h1
 subst hq
 clear HQ
 have HC := qh (zx8 HF.out HNN.out HKK.out false _ d (i + 1) _ hd hb0.symm (by nofun) HK2.out.ps)
 clear hb0
 go_wp2_with fail
 refine cm HC.out ?_
 rintro e wv ⟨⟨v, rfl, q, rfl, hn⟩, hp2, ha2⟩
 have nb := (ha2.block _ (zzz HK2.out.nd) (by have := zzq HLT; omega)).trans HK2.out.nd
 clear c0 c1 c2 c3 cf cf0 cf3 hnl
 obtain ⟨c0, c1, c2, c3, cf⟩ := zzj nb
 have cf3 := cf 3
 have hnl := zzz nb
 have hA := HK2.out.ap.next ha2
 have HB : Hid (Below w.heap.size wv ((wv.setCell ⟨w.heap.size, 3, none⟩ (.slice (some ⟨wv.heap.size, 0, none⟩) 1 1)).alloc (.cells #[nPtr q] 22))) := ((Below.refl w.heap.size wv).setCell (p := ⟨w.heap.size, 3, none⟩) qv _).alloc (by simp; omega) _
 have HA := qh (hA.trans (Ap.of HB.out))
 have HP := qh (hp2.ap HB.out HLO.out)
 have HOP : Hid (Open w.heap.size ((wv.setCell ⟨w.heap.size, 3, none⟩ (.slice (some ⟨wv.heap.size, 0, none⟩) 1 1)).alloc (.cells #[nPtr q] 22)) (.mk 12 zzx 0 [b]) w.heap.size (.slice (some ⟨wv.heap.size, 0, none⟩) 1 1) [q]) := zm0 qv (zzz HK2.out.nd) (set1 wv w.heap.size _) (by simp) ha2.size (by rw [zz8 nb]; rfl) (NAts.cons hn NAts.nil) rfl #[nPtr q] rfl (by simp [maxLen])
 clear hp2 ha2 HC nb hA hn
 have hx := hc0
 have HC3 := qh (zz1 c _ j zj5 (by decide) hx HP.out)
 clear hx
 go_wp2_with fail
 refine cm HC3.out ?_
 rintro e wx ⟨rfl, hb⟩
 replace HOP := qh (HOP.out.stay (Ap.of hb) HLT.out)
 replace HA := qh (HA.out.next (Ap.of hb))
 replace HP := qh (HP.out.later hb)
 clear hb HC3
 clear c0 c1 c2 c3 cf cf3 hnl
 have hx := hf0
 have HC3 := qh (zz1 c _ j zxz (by decide) hx HP.out)
 clear hx
 go_wp2_with fail
 refine cm HC3.out ?_
 rintro e wy ⟨rfl, hb⟩
 replace HOP := qh (HOP.out.stay (Ap.of hb) HLT.out)
 replace HA := qh (HA.out.next (Ap.of hb))
 replace HP := qh (HP.out.later hb)
 clear hb HC3
 obtain ⟨c3, cf, hnl⟩ := HOP.out.cell
 have HC5 := qh (zwz c wy j 3 (by decide) HP.out)
 go_wp2_with fail
 refine cm HC5.out ?_
 rintro e wz ⟨⟨v, rfl, q2, rfl⟩, hp3, he, ha3⟩
 have HA3 := qh (HA.out.next ha3)
 have HP3 := qh hp3
 clear hp3 ha3 HC5 c3 cf hnl
 go_wp2_with fail
 go_ret
 exact ⟨⟨_, rfl, _, rfl⟩, HP3.out, he, HA3.out⟩
end Go.Proofs.YtoimgcjbcbhclaaGreatDoor.Old
