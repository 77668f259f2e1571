/-
  The document's parser: a declaration (var).
-/
import Derived.Test.YtoimgcjbcbhclaaGreatDoorRn26
namespace Go.Proofs.YtoimgcjbcbhclaaGreatDoor.Old
open Go.RowKit
set_option maxRecDepth 100000 in
set_option maxHeartbeats 4000000 in
theorem rst_var {c : PC} {F : Fns} (hF : RCt c F) (hN : ∃ k, FNx c.l k F) (hK : FOk F) (w : World) (d i : Nat) (r : PR Tr) (hd : d ≤ 30) (hf : fx c.l i = tVar) (hs : r = zf0 c.l F d i) (ho : r ≠ .out) (h : Ps c w i 0 (-1)) :
  Calls Tryz.prog 111 #[pPtr c, .int .i64 (d : Int)] w (zj3 c w (NV w.heap.size) ZN r) := by
 have HLT := qh h.rlt
 have HLO := qh h.base.size
 have HO := qh ho
 have HF := qh hF
 have HNN := qh hN
 have HKK := qh hK
 have hdd : decide ((30 : Int) < (d : Int)) = false := decide_eq_false (by omega)
 have n0 : ¬ fx c.l i = zz4 := by rw [hf]; decide
 have n1 : ¬ fx c.l i = zz9 := by rw [hf]; decide
 have n2 : ¬ fx c.l i = zzw := by rw [hf]; decide
 have n3 : ¬ fx c.l i = tIf := by rw [hf]; decide
 have n4 : ¬ fx c.l i = zjz := by rw [hf]; decide
 have n5 : ¬ fx c.l i = zv0 := by rw [hf]; decide
 have n6 : ¬ fx c.l i = tTry := by rw [hf]; decide
 have HQ := qh hs
 clear hs
 have HS0 := qh (Stn.new h)
 have hc := zzy c (w.alloc nd0) i zz4 (by decide) HS0.out.ps
 rw [decide_eq_false n0] at hc
 have HC := qh hc
 clear hc
 clear h
 go_enter Tryz.func111, Tryz.ntmps111
 go_wp2_with fail
 refine cm HC.out ?_
 rintro e w1 ⟨rfl, hb⟩
 have HS1 := qh (HS0.out.below hb)
 clear hb HC HS0
 have HC := qh (zz1 c w1 i zz9 (by decide) n1 HS1.out.ps)
 go_wp2_with fail
 refine cm HC.out ?_
 rintro e w2 ⟨rfl, hb⟩
 have HS2 := qh (HS1.out.below hb)
 clear hb HC HS1
 have HC := qh (zz1 c w2 i zzw (by decide) n2 HS2.out.ps)
 go_wp2_with fail
 refine cm HC.out ?_
 rintro e w3 ⟨rfl, hb⟩
 have HS3 := qh (HS2.out.below hb)
 clear hb HC HS2
 have HC := qh (zz1 c w3 i tIf (by decide) n3 HS3.out.ps)
 go_wp2_with fail
 refine cm HC.out ?_
 rintro e w4 ⟨rfl, hb⟩
 have HS4 := qh (HS3.out.below hb)
 clear hb HC HS3
 have hc := zzy c w4 i zjz (by decide) HS4.out.ps
 rw [decide_eq_false n4] at hc
 have HC := qh hc
 clear hc
 go_wp2_with fail
 refine cm HC.out ?_
 rintro e w5 ⟨rfl, hb⟩
 have HS5 := qh (HS4.out.below hb)
 clear hb HC HS4
 have hc := zzy c w5 i zv0 (by decide) HS5.out.ps
 rw [decide_eq_false n5] at hc
 have HC := qh hc
 clear hc
 go_wp2_with fail
 refine cm HC.out ?_
 rintro e w6 ⟨rfl, hb⟩
 have HS6 := qh (HS5.out.below hb)
 clear hb HC HS5
 have HC := qh (zz1 c w6 i tTry (by decide) n6 HS6.out.ps)
 go_wp2_with fail
 refine cm HC.out ?_
 rintro e w7 ⟨rfl, hb⟩
 have HS7 := qh (HS6.out.below hb)
 clear hb HC HS6
 have hc := zzy c w7 i tVar (by decide) HS7.out.ps
 rw [decide_eq_true hf] at hc
 have HC := qh hc
 clear hc
 go_wp2_with fail
 refine cm HC.out ?_
 rintro e w8 ⟨rfl, hb⟩
 have HS8 := qh (HS7.out.below hb)
 clear hb HC HS7
 clear ho hF hN hK
 have nb := HS8.out.nd
 obtain ⟨c0, c1, c2, c3, cf⟩ := zzj nb
 have cf0 := cf 0
 have cf3 := cf 3
 have hnl := zzz nb
 clear nb
 have x0 := HS8.out.ps.c0
 have x1 := HS8.out.ps.c1
 have xf := HS8.out.ps.fz 1
 have hR := HS8.out.ps.rlt
 have hT := HS8.out.ps.base.tlt
 obtain ⟨k0, k1, k2, k3⟩ := HS8.out.ps.toks
 have hlt : (i : Int) < (c.l.length : Int) := by have := HS8.out.ps.lt; omega
 go_wp2_with fail
 have HS9 := HS8
 obtain ⟨W0, hW0⟩ : ∃ W0, W0 = w8.drew := ⟨_, rfl⟩
 have hS0 : TokS c w8 W0 := by rw [hW0]; exact ⟨rfl, rfl⟩
 have hz0 : W0.heap.size = w8.heap.size := by rw [hW0]; rfl
 have y0 : W0.cell? ⟨w.heap.size, 0, none⟩ = some (.int .i64 0) := by rw [hW0]; exact c0
 have yf : W0.frozen? ⟨w.heap.size, 0, none⟩ = false := by rw [hW0]; exact cf0
 have hSA : ∀ o, TokS c w8 (W0.alloc o) := fun o => hS0.alloc (by omega) (by omega) o
 have hPN : c.P ≠ w.heap.size := by have := zzq HLT; omega
 have hTN : c.tb ≠ w.heap.size := by have h1 := HS8.out.ps.base.old; have h2 := zzq HLO; omega
 have hSB : ∀ o, TokS c w8 ((W0.setCell ⟨w.heap.size, 0, none⟩ (.int .i64 2)).alloc o) := fun o => (hS0.set hPN hTN).alloc (by simp; omega) (by simp; omega) o
 have htx : (tkA c.l i).tx = tVar := ((fx_is (by decide)).1 hf).2
 have hkk : dcK tVar = 2 := by decide +kernel
 have hnl0 : w.heap.size < W0.heap.size := by omega
 have hHK : zk9 (tkA c.l i).tx = 2 := by rw [htx]; decide +kernel
 have HST : ∀ o, Hid (Stk c w 2 i ((W0.setCell ⟨w.heap.size, 0, none⟩ (.int .i64 2)).alloc o)) := fun o => HS8.out.decl HLO.out hW0 o 2
 have HQ1 : Hid (r = (zjq c.l (i + 1)).bind fun s i1 => if (2 : Int) = 4 ∧ ¬ fx c.l i1 = tEq then badF c.l 3 i1 else if fx c.l i1 = tEq then (zq2 c.l F.vl d (i1 + 1)).bind fun v i2 => (zz0 c.l zz9 i2).bind fun _ i3 => .ok (.mk 2 s 0 [v]) i3 else (zz0 c.l zz9 i1).bind fun _ i2 => .ok (.mk 2 s 0 []) i2) := by
  have h1 := zzq HQ; unfold zf0 at h1; rw [hHK] at h1; exact h1
 have HHL := qh (zbz HS8.out.ps.base.ends HS8.out.ps.lt hf (by decide))
 have HHL3 := qh HS8.out.ps.base.len
 clear HQ hHK hz0 c0 c1 c2 c3 cf cf0 cf3 HS9 hf n0 n1 n2 n3 n4 n5 n6
 have HW0 := qh hW0
 clear hW0
 refine viaM (G := ?G1) (fun CONT => ?_) ?_
 rotate_left
 ·
  refine wp_region_held (S := TokS c w8) (by kernel_rfl) ?_; change wpAnyH _ _ _ _ _ _ _ _ (World.drew _); rw [← HW0.out]
  obtain ⟨ma, mb, mc, mab, mac, mba, mbc, mca, mcb, mabc, macb, mbac, mbca, mcab, mcba, e0, ea, eb, ec, eab, eac, eba, ebc, eca, ecb, eabc, eacb, ebac, ebca, ecab, ecba, labc, lacb, lbac, lbca, lcab, lcba⟩ := decl_made W0
  refine wh 0 (nPtr w.heap.size) hS0 ?_; refine wh 6 (pPtr c) hS0 ?_; refine wh 7 (pPtr c) hS0 ?_; refine wh 8 (.pointer (some ⟨c.P, 0, none⟩)) hS0 ?_
  refine wg 9 (.slice (some ⟨c.tb, 0, none⟩) c.l.length c.cap) rfl (Or.inl ⟨by kernel_rfl, fun W hW => by have hh := (TokS.cell hW 0).trans x0; go_simp⟩) hS0 ?_
  refine wh 10 (pPtr c) hS0 ?_; refine wh 11 (pPtr c) hS0 ?_; refine wh 12 (.pointer (some ⟨c.P, 1, none⟩)) hS0 ?_
  refine wg 13 (.int .i64 (i : Int)) rfl (Or.inl ⟨by kernel_rfl, fun W hW => by have hh := (TokS.cell hW 1).trans x1; go_simp⟩) hS0 ?_
  refine wh 14 (.pointer (some ⟨c.tb, i * 4, none⟩)) hS0 ?_; refine wh 15 (.pointer (some ⟨c.tb, i * 4 + 1, none⟩)) hS0 ?_
  refine wg 16 (.string tVar) rfl (Or.inl ⟨by kernel_rfl, fun W hW => by have hh := (TokS.tok hW (i * 4 + 1)).trans (k1.trans (by rw [htx])); go_simp⟩) hS0 ?_
  refine wq1 1 fun K hK => ?_; go_simp; refine hK _ _ (hSA _) (fun _ => ?_); clear hK K
  refine wpAnyH_ready (rs := [2, 3, 4]) (by kernel_rfl) (by simp) (AllReadyH.cons rfl (fun K hK => ?_) (AllReadyH.cons rfl (fun K hK => ?_) (AllReadyH.cons rfl (fun K hK => ?_) AllReadyH.nil)))
  ·
   go_simp; refine hK _ _ (hSA _) (fun _ => ?_); clear hK K; refine wpAnyH_ready (rs := [3, 4]) (by kernel_rfl) (by simp) (AllReadyH.cons rfl (fun K hK => ?_) (AllReadyH.cons rfl (fun K hK => ?_) AllReadyH.nil))
   ·
    go_simp; refine hK _ _ (hSA _) (fun _ => ?_); clear hK K; refine wq1 4 fun K hK => ?_; go_simp; refine hK _ _ (hSA _) (fun _ => ?_); clear hK K; refine wh 5 (.map (some W0.heap.size)) (hSA _) ?_; have el := labc tVar
    rw [hkk] at el; refine wq1 17 fun K hK => ?_; go_simp; refine hK _ _ (hSA _) (fun _ => ?_); clear hK K; refine wh 18 (nPtr w.heap.size) (hSA _) ?_; refine wh 19 (.pointer (some ⟨w.heap.size, 0, none⟩)) (hSA _) ?_
    have z0 : (W0.alloc (.map mabc 3)).cell? ⟨w.heap.size, 0, none⟩ = some (.int .i64 0) := by rw [World.cell?_alloc_past _ _ _ hnl0]; exact y0
    have zf : (W0.alloc (.map mabc 3)).frozen? ⟨w.heap.size, 0, none⟩ = false := by rw [World.frozen?_of_block (w := W0) (Below.heap_alloc W0 _ _ hnl0)]; exact yf
    refine wq1 20 fun K hK => ?_; go_simp; refine hK _ _ (hSB _) (fun _ => ?_); clear hK K z0 zf el; refine wpAnyH_done (by kernel_rfl) ?_ _; go_simp; exact CONT mabc
   ·
    go_simp; refine hK _ _ (hSA _) (fun _ => ?_); clear hK K; refine wq1 3 fun K hK => ?_; go_simp; refine hK _ _ (hSA _) (fun _ => ?_); clear hK K; refine wh 5 (.map (some W0.heap.size)) (hSA _) ?_; have el := lacb tVar
    rw [hkk] at el; refine wq1 17 fun K hK => ?_; go_simp; refine hK _ _ (hSA _) (fun _ => ?_); clear hK K; refine wh 18 (nPtr w.heap.size) (hSA _) ?_; refine wh 19 (.pointer (some ⟨w.heap.size, 0, none⟩)) (hSA _) ?_
    have z0 : (W0.alloc (.map macb 3)).cell? ⟨w.heap.size, 0, none⟩ = some (.int .i64 0) := by rw [World.cell?_alloc_past _ _ _ hnl0]; exact y0
    have zf : (W0.alloc (.map macb 3)).frozen? ⟨w.heap.size, 0, none⟩ = false := by rw [World.frozen?_of_block (w := W0) (Below.heap_alloc W0 _ _ hnl0)]; exact yf
    refine wq1 20 fun K hK => ?_; go_simp; refine hK _ _ (hSB _) (fun _ => ?_); clear hK K z0 zf el; refine wpAnyH_done (by kernel_rfl) ?_ _; go_simp; exact CONT macb
  ·
   go_simp; refine hK _ _ (hSA _) (fun _ => ?_); clear hK K; refine wpAnyH_ready (rs := [2, 4]) (by kernel_rfl) (by simp) (AllReadyH.cons rfl (fun K hK => ?_) (AllReadyH.cons rfl (fun K hK => ?_) AllReadyH.nil))
   ·
    go_simp; refine hK _ _ (hSA _) (fun _ => ?_); clear hK K; refine wq1 4 fun K hK => ?_; go_simp; refine hK _ _ (hSA _) (fun _ => ?_); clear hK K; refine wh 5 (.map (some W0.heap.size)) (hSA _) ?_; have el := lbac tVar
    rw [hkk] at el; refine wq1 17 fun K hK => ?_; go_simp; refine hK _ _ (hSA _) (fun _ => ?_); clear hK K; refine wh 18 (nPtr w.heap.size) (hSA _) ?_; refine wh 19 (.pointer (some ⟨w.heap.size, 0, none⟩)) (hSA _) ?_
    have z0 : (W0.alloc (.map mbac 3)).cell? ⟨w.heap.size, 0, none⟩ = some (.int .i64 0) := by rw [World.cell?_alloc_past _ _ _ hnl0]; exact y0
    have zf : (W0.alloc (.map mbac 3)).frozen? ⟨w.heap.size, 0, none⟩ = false := by rw [World.frozen?_of_block (w := W0) (Below.heap_alloc W0 _ _ hnl0)]; exact yf
    refine wq1 20 fun K hK => ?_; go_simp; refine hK _ _ (hSB _) (fun _ => ?_); clear hK K z0 zf el; refine wpAnyH_done (by kernel_rfl) ?_ _; go_simp; exact CONT mbac
   ·
    go_simp; refine hK _ _ (hSA _) (fun _ => ?_); clear hK K; refine wq1 2 fun K hK => ?_; go_simp; refine hK _ _ (hSA _) (fun _ => ?_); clear hK K; refine wh 5 (.map (some W0.heap.size)) (hSA _) ?_; have el := lbca tVar
    rw [hkk] at el; refine wq1 17 fun K hK => ?_; go_simp; refine hK _ _ (hSA _) (fun _ => ?_); clear hK K; refine wh 18 (nPtr w.heap.size) (hSA _) ?_; refine wh 19 (.pointer (some ⟨w.heap.size, 0, none⟩)) (hSA _) ?_
    have z0 : (W0.alloc (.map mbca 3)).cell? ⟨w.heap.size, 0, none⟩ = some (.int .i64 0) := by rw [World.cell?_alloc_past _ _ _ hnl0]; exact y0
    have zf : (W0.alloc (.map mbca 3)).frozen? ⟨w.heap.size, 0, none⟩ = false := by rw [World.frozen?_of_block (w := W0) (Below.heap_alloc W0 _ _ hnl0)]; exact yf
    refine wq1 20 fun K hK => ?_; go_simp; refine hK _ _ (hSB _) (fun _ => ?_); clear hK K z0 zf el; refine wpAnyH_done (by kernel_rfl) ?_ _; go_simp; exact CONT mbca
  ·
   go_simp; refine hK _ _ (hSA _) (fun _ => ?_); clear hK K; refine wpAnyH_ready (rs := [2, 3]) (by kernel_rfl) (by simp) (AllReadyH.cons rfl (fun K hK => ?_) (AllReadyH.cons rfl (fun K hK => ?_) AllReadyH.nil))
   ·
    go_simp; refine hK _ _ (hSA _) (fun _ => ?_); clear hK K; refine wq1 3 fun K hK => ?_; go_simp; refine hK _ _ (hSA _) (fun _ => ?_); clear hK K; refine wh 5 (.map (some W0.heap.size)) (hSA _) ?_; have el := lcab tVar
    rw [hkk] at el; refine wq1 17 fun K hK => ?_; go_simp; refine hK _ _ (hSA _) (fun _ => ?_); clear hK K; refine wh 18 (nPtr w.heap.size) (hSA _) ?_; refine wh 19 (.pointer (some ⟨w.heap.size, 0, none⟩)) (hSA _) ?_
    have z0 : (W0.alloc (.map mcab 3)).cell? ⟨w.heap.size, 0, none⟩ = some (.int .i64 0) := by rw [World.cell?_alloc_past _ _ _ hnl0]; exact y0
    have zf : (W0.alloc (.map mcab 3)).frozen? ⟨w.heap.size, 0, none⟩ = false := by rw [World.frozen?_of_block (w := W0) (Below.heap_alloc W0 _ _ hnl0)]; exact yf
    refine wq1 20 fun K hK => ?_; go_simp; refine hK _ _ (hSB _) (fun _ => ?_); clear hK K z0 zf el; refine wpAnyH_done (by kernel_rfl) ?_ _; go_simp; exact CONT mcab
   ·
    go_simp; refine hK _ _ (hSA _) (fun _ => ?_); clear hK K; refine wq1 2 fun K hK => ?_; go_simp; refine hK _ _ (hSA _) (fun _ => ?_); clear hK K; refine wh 5 (.map (some W0.heap.size)) (hSA _) ?_; have el := lcba tVar
    rw [hkk] at el; refine wq1 17 fun K hK => ?_; go_simp; refine hK _ _ (hSA _) (fun _ => ?_); clear hK K; refine wh 18 (nPtr w.heap.size) (hSA _) ?_; refine wh 19 (.pointer (some ⟨w.heap.size, 0, none⟩)) (hSA _) ?_
    have z0 : (W0.alloc (.map mcba 3)).cell? ⟨w.heap.size, 0, none⟩ = some (.int .i64 0) := by rw [World.cell?_alloc_past _ _ _ hnl0]; exact y0
    have zf : (W0.alloc (.map mcba 3)).frozen? ⟨w.heap.size, 0, none⟩ = false := by rw [World.frozen?_of_block (w := W0) (Below.heap_alloc W0 _ _ hnl0)]; exact yf
    refine wq1 20 fun K hK => ?_; go_simp; refine hK _ _ (hSB _) (fun _ => ?_); clear hK K z0 zf el; refine wpAnyH_done (by kernel_rfl) ?_ _; go_simp; exact CONT mcba
 ·
  intro m; obtain ⟨W1, hW1⟩ : ∃ W1, W1 = (W0.setCell ⟨w.heap.size, 0, none⟩ (.int .i64 2)).alloc (.map m 3) := ⟨_, rfl⟩; have HK1 : Hid (Stk c w 2 i W1) := by rw [hW1]; exact zzq (HST _)
  rw [← hW1]; clear hW1 HST hSA hSB hS0 x0 x1 xf hR hT k0 k1 k2 k3 y0 yf hnl0 hkk htx; have hl := zzq HHL; have hl3 := zzq HHL3; have x1 := HK1.out.ps.c1; have xf := HK1.out.ps.fz 1; have hR := HK1.out.ps.rlt
  have HK2 := qh (HK1.out.stepped HLT.out hl); have HC := qh (zvk c _ (i + 1) HK2.out.ps); go_wp2_with fail; refine cm HC.out ?_; intro e wi hp; clear HC x1 xf hR
  cases hr : zjq c.l (i + 1) with
  | out => rw [hr] at HQ1; exact absurd HQ1.out HO.out
  | bad er pl =>
   rw [hr] at hp HQ1; have hq : r = .bad er pl := zzq HQ1; subst hq; obtain ⟨⟨v, rfl, s, rfl⟩, ⟨j, hp1⟩, he, ha⟩ := hp; have nb := (ha.block _ (zzz HK2.out.nd) (by have := zzq HLT; omega)).trans HK2.out.nd
   obtain ⟨c0, c1, c2, c3, cf⟩ := zzj nb; have cf1 := cf 1; have hnl := zzz nb
   have hbw : Below w.heap.size wi (wi.setCell ⟨w.heap.size, 1, none⟩ (.string s)) := (Below.refl w.heap.size wi).setCell (p := ⟨w.heap.size, 1, none⟩) qv _
   have HA := qh ((HK2.out.ap.next ha).trans (Ap.of hbw)); have HP := qh (hp1.ap hbw HLO.out)
   have nb2 : (wi.setCell ⟨w.heap.size, 1, none⟩ (.string s)).heap[w.heap.size]? = some (zzk 2 s 0 (.slice none 0 0)) := by rw [zz8 nb]; rfl
   obtain ⟨d0, d1, d2, d3, df⟩ := zzj nb2; have hnl2 := zzz nb2; have HC3 := qh (zvj he HP.out); have HC4 := qh (zv3 c _ j er pl he tEq HP.out); clear hp1 ha hr HQ1 nb nb2 hbw; clear HC3
   go_wp2_with fail; refine cm HC4.out ?_; rintro e wz ⟨rfl, hb⟩; have HA9 := qh (HA.out.next (Ap.of hb)); have HP9 := qh (HP.out.later hb); have HC5 := qh (zx9 c wz j er pl he zz9 HP9.out)
   clear hb HC4 c0 c1 c2 c3 cf cf1 hnl d0 d1 d2 d3 df hnl2; go_wp2_with fail; refine cm HC5.out ?_; rintro e wy ⟨rfl, rfl⟩; clear HC5; go_wp2_with fail; go_ret; exact ⟨⟨_, rfl, _, rfl⟩, ⟨j, HP9.out⟩, he, HA9.out⟩
  | ok s j =>
   rw [hr] at hp HQ1
   have HQ2 : Hid (r = if (2 : Int) = 4 ∧ ¬ fx c.l j = tEq then badF c.l 3 j else if fx c.l j = tEq then (zq2 c.l F.vl d (j + 1)).bind fun v i2 => (zz0 c.l zz9 i2).bind fun _ i3 => .ok (.mk 2 s 0 [v]) i3 else (zz0 c.l zz9 j).bind fun _ i2 => .ok (.mk 2 s 0 []) i2) := zzq HQ1
   obtain ⟨⟨v, rfl, rfl⟩, hp1, ha⟩ := hp; have HK3 := qh (HK2.out.on HLT.out hp1 ha); have HX := qh (HK3.out.text HLO.out s); have nb := HK3.out.nd; obtain ⟨c0, c1, c2, c3, cf⟩ := zzj nb; have cf1 := cf 1
   have hnl := zzz nb; obtain ⟨d0, d1, d2, d3, df⟩ := zzj HX.out.nd; have hnl2 := zzz HX.out.nd; clear hp1 ha hr HQ1 nb HK1 HK2; rw [if_neg (fun h => absurd h.1 (by decide))] at HQ2
   by_cases hx : fx c.l j = tEq
   ·
    rw [if_pos hx] at HQ2; have HEQ := qh hx; clear hx; have HY := HX; have HC4 := qh (zxq c _ j tEq (by decide) HEQ.out HY.out.ps); go_wp2_with fail; refine cm HC4.out ?_; rintro e ws ⟨rfl, hp6, ha6⟩
    have HZ := qh (HY.out.on HLT.out hp6 ha6); clear hp6 ha6 HC4 c0 c1 c2 c3 cf cf1 hnl d0 d1 d2 d3 df hnl2
    cases hr : zq2 c.l F.vl d (j + 1) with
    | out => rw [hr] at HQ2; exact absurd HQ2.out HO.out
    | bad er pl =>
     have HC := qh (HF.out.vl ws d (j + 1) _ hd hr.symm (by nofun) HZ.out.ps); rw [hr] at HQ2; have hq : r = .bad er pl := zzq HQ2; subst hq; clear hr HQ2; go_wp2_with fail; refine cm HC.out ?_
     rintro e wv ⟨⟨v, rfl, q, rfl⟩, ⟨j2, hp1⟩, he, ha⟩; have nb := (ha.block _ (zzz HZ.out.nd) (by have := zzq HLT; omega)).trans HZ.out.nd
     obtain ⟨c0, c1, c2, c3, cf⟩ := zzj nb; have cf3 := cf 3; have hnl := zzz nb; have hA := HZ.out.ap.next ha
     have HB : Hid (Below w.heap.size wv ((wv.setCell ⟨w.heap.size, 3, none⟩ (.slice (some ⟨wv.heap.size, 0, none⟩) 1 1)).alloc (.cells #[nPtr q] 22))) := ((Below.refl w.heap.size wv).setCell (p := ⟨w.heap.size, 3, none⟩) qv _).alloc (by simp; omega) _
     have HA := qh (hA.trans (Ap.of HB.out)); have HP := qh (hp1.ap HB.out HLO.out); have HC2 := qh (zx9 c _ j2 er pl he zz9 HP.out); clear hp1 ha HC nb hA; go_wp2_with fail; refine cm HC2.out ?_
     rintro e wz ⟨rfl, rfl⟩; clear HC2; go_wp2_with fail; go_ret; exact ⟨⟨_, rfl, _, rfl⟩, ⟨j2, HP.out⟩, he, HA.out⟩
    | ok t j3 =>
     have HC := qh (HF.out.vl ws d (j + 1) _ hd hr.symm (by nofun) HZ.out.ps); rw [hr] at HQ2; have hq : r = (zz0 c.l zz9 j3).bind fun _ i2 => .ok (.mk 2 s 0 [t]) i2 := zzq HQ2; have HQ3 := qh hq
     clear hr HQ2 hq; go_wp2_with fail; refine cm HC.out ?_; rintro e wv ⟨⟨v, rfl, q, rfl, hn⟩, hp1, ha⟩; have nb := (ha.block _ (zzz HZ.out.nd) (by have := zzq HLT; omega)).trans HZ.out.nd
     obtain ⟨c0, c1, c2, c3, cf⟩ := zzj nb; have cf3 := cf 3; have hnl := zzz nb; have hA := HZ.out.ap.next ha
     have HB : Hid (Below w.heap.size wv ((wv.setCell ⟨w.heap.size, 3, none⟩ (.slice (some ⟨wv.heap.size, 0, none⟩) 1 1)).alloc (.cells #[nPtr q] 22))) := ((Below.refl w.heap.size wv).setCell (p := ⟨w.heap.size, 3, none⟩) qv _).alloc (by simp; omega) _
     have HA := qh (hA.trans (Ap.of HB.out)); have HP := qh (hp1.ap HB.out HLO.out)
     have HN : Hid (NV w.heap.size ((wv.setCell ⟨w.heap.size, 3, none⟩ (.slice (some ⟨wv.heap.size, 0, none⟩) 1 1)).alloc (.cells #[nPtr q] 22)) (.mk 2 s 0 [t]) (nPtr w.heap.size)) := znj qv (zzz HZ.out.nd) (set1 wv w.heap.size _) (by simp) ha.size (by rw [zz8 nb]; rfl) (NAts.cons hn NAts.nil) rfl #[nPtr q] rfl (by simp [maxLen])
     have HC2 := qh (zx4 c _ j3 zz9 (by decide) HP.out); have HQ2 := HQ3; clear hp1 ha HC nb hA hn HQ3; go_wp2_with fail; refine cm HC2.out ?_; intro e wz hp
     cases hr2 : zz0 c.l zz9 j3 with
     | out => rw [hr2] at HQ2; exact absurd HQ2.out HO.out
     | bad er pl =>
      rw [hr2] at hp HQ2; have hq : r = .bad er pl := zzq HQ2; subst hq; obtain ⟨⟨v, rfl, rfl⟩, hp2, he, ha2⟩ := hp; have HP2 := qh hp2; have HA2 := qh (HA.out.next ha2); clear hp2 ha2 HC2 hr2; go_wp2_with fail
      go_ret; exact ⟨⟨_, rfl, _, rfl⟩, HP2.out, he, HA2.out⟩
     | ok x j2 =>
      rw [hr2] at hp HQ2; have hq : r = .ok (.mk 2 s 0 [t]) j2 := zzq HQ2; subst hq; obtain ⟨⟨v, rfl, rfl⟩, hp2, ha2⟩ := hp; have HP2 := qh hp2; have HA2 := qh (HA.out.next ha2)
      have HN2 := qh (NV.later HN.out ha2 HLT.out); clear hp2 ha2 HC2 hr2; go_wp2_with fail; go_ret; exact ⟨⟨_, rfl, HN2.out⟩, HP2.out, HA2.out⟩
   ·
    rw [if_neg hx] at HQ2; have HC4 := qh (zz1 c _ j tEq (by decide) hx HX.out.ps); clear hx; go_wp2_with fail; refine cm HC4.out ?_; rintro e wn ⟨rfl, hb⟩; have HY := qh (HX.out.below hb)
    clear hb HC4 c0 c1 c2 c3 cf cf1 hnl d0 d1 d2 d3 df hnl2; have HA := qh HY.out.ap; have HN : Hid (NV w.heap.size wn (.mk 2 s 0 []) (nPtr w.heap.size)) := st_done qv HY.out.nd zg6 NAts.nil
    have HC2 := qh (zx4 c wn j zz9 (by decide) HY.out.ps); go_wp2_with fail; refine cm HC2.out ?_; intro e wz hp
    cases hr2 : zz0 c.l zz9 j with
    | out => rw [hr2] at HQ2; exact absurd HQ2.out HO.out
    | bad er pl =>
     rw [hr2] at hp HQ2; have hq : r = .bad er pl := zzq HQ2; subst hq; obtain ⟨⟨v, rfl, rfl⟩, hp2, he, ha2⟩ := hp; have HP2 := qh hp2; have HA2 := qh (HA.out.next ha2); clear hp2 ha2 HC2 hr2; go_wp2_with fail
     go_ret; exact ⟨⟨_, rfl, _, rfl⟩, HP2.out, he, HA2.out⟩
    | ok x j2 =>
     rw [hr2] at hp HQ2; have hq : r = .ok (.mk 2 s 0 []) j2 := zzq HQ2; subst hq; obtain ⟨⟨v, rfl, rfl⟩, hp2, ha2⟩ := hp; have HP2 := qh hp2; have HA2 := qh (HA.out.next ha2)
     have HN2 := qh (NV.later HN.out ha2 HLT.out); clear hp2 ha2 HC2 hr2; go_wp2_with fail; go_ret; exact ⟨⟨_, rfl, HN2.out⟩, HP2.out, HA2.out⟩
end Go.Proofs.YtoimgcjbcbhclaaGreatDoor.Old
namespace Go.Proofs.YtoimgcjbcbhclaaGreatDoor.Old
open Go.RowKit
set_option maxRecDepth 100000 in
set_option maxHeartbeats 4000000 in
theorem rst_let {c : PC} {F : Fns} (hF : RCt c F) (hN : ∃ k, FNx c.l k F) (hK : FOk F) (w : World) (d i : Nat) (r : PR Tr) (hd : d ≤ 30) (hf : fx c.l i = tLet) (hs : r = zf0 c.l F d i) (ho : r ≠ .out) (h : Ps c w i 0 (-1)) :
  Calls Tryz.prog 111 #[pPtr c, .int .i64 (d : Int)] w (zj3 c w (NV w.heap.size) ZN r) := by
 have HLT := qh h.rlt
 have HLO := qh h.base.size
 have HO := qh ho
 have HF := qh hF
 have HNN := qh hN
 have HKK := qh hK
 have hdd : decide ((30 : Int) < (d : Int)) = false := decide_eq_false (by omega)
 have n0 : ¬ fx c.l i = zz4 := by rw [hf]; decide
 have n1 : ¬ fx c.l i = zz9 := by rw [hf]; decide
 have n2 : ¬ fx c.l i = zzw := by rw [hf]; decide
 have n3 : ¬ fx c.l i = tIf := by rw [hf]; decide
 have n4 : ¬ fx c.l i = zjz := by rw [hf]; decide
 have n5 : ¬ fx c.l i = zv0 := by rw [hf]; decide
 have n6 : ¬ fx c.l i = tTry := by rw [hf]; decide
 have n7 : ¬ fx c.l i = tVar := by rw [hf]; decide
 have HQ := qh hs
 clear hs
 have HS0 := qh (Stn.new h)
 have hc := zzy c (w.alloc nd0) i zz4 (by decide) HS0.out.ps
 rw [decide_eq_false n0] at hc
 have HC := qh hc
 clear hc
 clear h
 go_enter Tryz.func111, Tryz.ntmps111
 go_wp2_with fail
 refine cm HC.out ?_
 rintro e w1 ⟨rfl, hb⟩
 have HS1 := qh (HS0.out.below hb)
 clear hb HC HS0
 have HC := qh (zz1 c w1 i zz9 (by decide) n1 HS1.out.ps)
 go_wp2_with fail
 refine cm HC.out ?_
 rintro e w2 ⟨rfl, hb⟩
 have HS2 := qh (HS1.out.below hb)
 clear hb HC HS1
 have HC := qh (zz1 c w2 i zzw (by decide) n2 HS2.out.ps)
 go_wp2_with fail
 refine cm HC.out ?_
 rintro e w3 ⟨rfl, hb⟩
 have HS3 := qh (HS2.out.below hb)
 clear hb HC HS2
 have HC := qh (zz1 c w3 i tIf (by decide) n3 HS3.out.ps)
 go_wp2_with fail
 refine cm HC.out ?_
 rintro e w4 ⟨rfl, hb⟩
 have HS4 := qh (HS3.out.below hb)
 clear hb HC HS3
 have hc := zzy c w4 i zjz (by decide) HS4.out.ps
 rw [decide_eq_false n4] at hc
 have HC := qh hc
 clear hc
 go_wp2_with fail
 refine cm HC.out ?_
 rintro e w5 ⟨rfl, hb⟩
 have HS5 := qh (HS4.out.below hb)
 clear hb HC HS4
 have hc := zzy c w5 i zv0 (by decide) HS5.out.ps
 rw [decide_eq_false n5] at hc
 have HC := qh hc
 clear hc
 go_wp2_with fail
 refine cm HC.out ?_
 rintro e w6 ⟨rfl, hb⟩
 have HS6 := qh (HS5.out.below hb)
 clear hb HC HS5
 have HC := qh (zz1 c w6 i tTry (by decide) n6 HS6.out.ps)
 go_wp2_with fail
 refine cm HC.out ?_
 rintro e w7 ⟨rfl, hb⟩
 have HS7 := qh (HS6.out.below hb)
 clear hb HC HS6
 have hc := zzy c w7 i tVar (by decide) HS7.out.ps
 rw [decide_eq_false n7] at hc
 have HC := qh hc
 clear hc
 go_wp2_with fail
 refine cm HC.out ?_
 rintro e w8 ⟨rfl, hb⟩
 have HS8 := qh (HS7.out.below hb)
 clear hb HC HS7
 have hc := zzy c w8 i tLet (by decide) HS8.out.ps
 rw [decide_eq_true hf] at hc
 have HC := qh hc
 clear hc
 go_wp2_with fail
 refine cm HC.out ?_
 rintro e w9 ⟨rfl, hb⟩
 have HS9 := qh (HS8.out.below hb)
 clear hb HC HS8
 clear ho hF hN hK
 have nb := HS9.out.nd
 obtain ⟨c0, c1, c2, c3, cf⟩ := zzj nb
 have cf0 := cf 0
 have cf3 := cf 3
 have hnl := zzz nb
 clear nb
 have x0 := HS9.out.ps.c0
 have x1 := HS9.out.ps.c1
 have xf := HS9.out.ps.fz 1
 have hR := HS9.out.ps.rlt
 have hT := HS9.out.ps.base.tlt
 obtain ⟨k0, k1, k2, k3⟩ := HS9.out.ps.toks
 have hlt : (i : Int) < (c.l.length : Int) := by have := HS9.out.ps.lt; omega
 go_wp2_with fail
 have HS9 := HS9
 obtain ⟨W0, hW0⟩ : ∃ W0, W0 = w9.drew := ⟨_, rfl⟩
 have hS0 : TokS c w9 W0 := by rw [hW0]; exact ⟨rfl, rfl⟩
 have hz0 : W0.heap.size = w9.heap.size := by rw [hW0]; rfl
 have y0 : W0.cell? ⟨w.heap.size, 0, none⟩ = some (.int .i64 0) := by rw [hW0]; exact c0
 have yf : W0.frozen? ⟨w.heap.size, 0, none⟩ = false := by rw [hW0]; exact cf0
 have hSA : ∀ o, TokS c w9 (W0.alloc o) := fun o => hS0.alloc (by omega) (by omega) o
 have hPN : c.P ≠ w.heap.size := by have := zzq HLT; omega
 have hTN : c.tb ≠ w.heap.size := by have h1 := HS9.out.ps.base.old; have h2 := zzq HLO; omega
 have hSB : ∀ o, TokS c w9 ((W0.setCell ⟨w.heap.size, 0, none⟩ (.int .i64 3)).alloc o) := fun o => (hS0.set hPN hTN).alloc (by simp; omega) (by simp; omega) o
 have htx : (tkA c.l i).tx = tLet := ((fx_is (by decide)).1 hf).2
 have hkk : dcK tLet = 3 := by decide +kernel
 have hnl0 : w.heap.size < W0.heap.size := by omega
 have hHK : zk9 (tkA c.l i).tx = 3 := by rw [htx]; decide +kernel
 have HST : ∀ o, Hid (Stk c w 3 i ((W0.setCell ⟨w.heap.size, 0, none⟩ (.int .i64 3)).alloc o)) := fun o => HS9.out.decl HLO.out hW0 o 3
 have HQ1 : Hid (r = (zjq c.l (i + 1)).bind fun s i1 => if (3 : Int) = 4 ∧ ¬ fx c.l i1 = tEq then badF c.l 3 i1 else if fx c.l i1 = tEq then (zq2 c.l F.vl d (i1 + 1)).bind fun v i2 => (zz0 c.l zz9 i2).bind fun _ i3 => .ok (.mk 3 s 0 [v]) i3 else (zz0 c.l zz9 i1).bind fun _ i2 => .ok (.mk 3 s 0 []) i2) := by
  have h1 := zzq HQ; unfold zf0 at h1; rw [hHK] at h1; exact h1
 have HHL := qh (zbz HS9.out.ps.base.ends HS9.out.ps.lt hf (by decide))
 have HHL3 := qh HS9.out.ps.base.len
 clear HQ hHK hz0 c0 c1 c2 c3 cf cf0 cf3 HS9 hf n0 n1 n2 n3 n4 n5 n6 n7
 have HW0 := qh hW0
 clear hW0
 refine viaM (G := ?G1) (fun CONT => ?_) ?_
 rotate_left
 ·
  refine wp_region_held (S := TokS c w9) (by kernel_rfl) ?_; change wpAnyH _ _ _ _ _ _ _ _ (World.drew _); rw [← HW0.out]
  obtain ⟨ma, mb, mc, mab, mac, mba, mbc, mca, mcb, mabc, macb, mbac, mbca, mcab, mcba, e0, ea, eb, ec, eab, eac, eba, ebc, eca, ecb, eabc, eacb, ebac, ebca, ecab, ecba, labc, lacb, lbac, lbca, lcab, lcba⟩ := decl_made W0
  refine wh 0 (nPtr w.heap.size) hS0 ?_; refine wh 6 (pPtr c) hS0 ?_; refine wh 7 (pPtr c) hS0 ?_; refine wh 8 (.pointer (some ⟨c.P, 0, none⟩)) hS0 ?_
  refine wg 9 (.slice (some ⟨c.tb, 0, none⟩) c.l.length c.cap) rfl (Or.inl ⟨by kernel_rfl, fun W hW => by have hh := (TokS.cell hW 0).trans x0; go_simp⟩) hS0 ?_
  refine wh 10 (pPtr c) hS0 ?_; refine wh 11 (pPtr c) hS0 ?_; refine wh 12 (.pointer (some ⟨c.P, 1, none⟩)) hS0 ?_
  refine wg 13 (.int .i64 (i : Int)) rfl (Or.inl ⟨by kernel_rfl, fun W hW => by have hh := (TokS.cell hW 1).trans x1; go_simp⟩) hS0 ?_
  refine wh 14 (.pointer (some ⟨c.tb, i * 4, none⟩)) hS0 ?_; refine wh 15 (.pointer (some ⟨c.tb, i * 4 + 1, none⟩)) hS0 ?_
  refine wg 16 (.string tLet) rfl (Or.inl ⟨by kernel_rfl, fun W hW => by have hh := (TokS.tok hW (i * 4 + 1)).trans (k1.trans (by rw [htx])); go_simp⟩) hS0 ?_
  refine wq1 1 fun K hK => ?_; go_simp; refine hK _ _ (hSA _) (fun _ => ?_); clear hK K
  refine wpAnyH_ready (rs := [2, 3, 4]) (by kernel_rfl) (by simp) (AllReadyH.cons rfl (fun K hK => ?_) (AllReadyH.cons rfl (fun K hK => ?_) (AllReadyH.cons rfl (fun K hK => ?_) AllReadyH.nil)))
  ·
   go_simp; refine hK _ _ (hSA _) (fun _ => ?_); clear hK K; refine wpAnyH_ready (rs := [3, 4]) (by kernel_rfl) (by simp) (AllReadyH.cons rfl (fun K hK => ?_) (AllReadyH.cons rfl (fun K hK => ?_) AllReadyH.nil))
   ·
    go_simp; refine hK _ _ (hSA _) (fun _ => ?_); clear hK K; refine wq1 4 fun K hK => ?_; go_simp; refine hK _ _ (hSA _) (fun _ => ?_); clear hK K; refine wh 5 (.map (some W0.heap.size)) (hSA _) ?_; have el := labc tLet
    rw [hkk] at el; refine wq1 17 fun K hK => ?_; go_simp; refine hK _ _ (hSA _) (fun _ => ?_); clear hK K; refine wh 18 (nPtr w.heap.size) (hSA _) ?_; refine wh 19 (.pointer (some ⟨w.heap.size, 0, none⟩)) (hSA _) ?_
    have z0 : (W0.alloc (.map mabc 3)).cell? ⟨w.heap.size, 0, none⟩ = some (.int .i64 0) := by rw [World.cell?_alloc_past _ _ _ hnl0]; exact y0
    have zf : (W0.alloc (.map mabc 3)).frozen? ⟨w.heap.size, 0, none⟩ = false := by rw [World.frozen?_of_block (w := W0) (Below.heap_alloc W0 _ _ hnl0)]; exact yf
    refine wq1 20 fun K hK => ?_; go_simp; refine hK _ _ (hSB _) (fun _ => ?_); clear hK K z0 zf el; refine wpAnyH_done (by kernel_rfl) ?_ _; go_simp; exact CONT mabc
   ·
    go_simp; refine hK _ _ (hSA _) (fun _ => ?_); clear hK K; refine wq1 3 fun K hK => ?_; go_simp; refine hK _ _ (hSA _) (fun _ => ?_); clear hK K; refine wh 5 (.map (some W0.heap.size)) (hSA _) ?_; have el := lacb tLet
    rw [hkk] at el; refine wq1 17 fun K hK => ?_; go_simp; refine hK _ _ (hSA _) (fun _ => ?_); clear hK K; refine wh 18 (nPtr w.heap.size) (hSA _) ?_; refine wh 19 (.pointer (some ⟨w.heap.size, 0, none⟩)) (hSA _) ?_
    have z0 : (W0.alloc (.map macb 3)).cell? ⟨w.heap.size, 0, none⟩ = some (.int .i64 0) := by rw [World.cell?_alloc_past _ _ _ hnl0]; exact y0
    have zf : (W0.alloc (.map macb 3)).frozen? ⟨w.heap.size, 0, none⟩ = false := by rw [World.frozen?_of_block (w := W0) (Below.heap_alloc W0 _ _ hnl0)]; exact yf
    refine wq1 20 fun K hK => ?_; go_simp; refine hK _ _ (hSB _) (fun _ => ?_); clear hK K z0 zf el; refine wpAnyH_done (by kernel_rfl) ?_ _; go_simp; exact CONT macb
  ·
   go_simp; refine hK _ _ (hSA _) (fun _ => ?_); clear hK K; refine wpAnyH_ready (rs := [2, 4]) (by kernel_rfl) (by simp) (AllReadyH.cons rfl (fun K hK => ?_) (AllReadyH.cons rfl (fun K hK => ?_) AllReadyH.nil))
   ·
    go_simp; refine hK _ _ (hSA _) (fun _ => ?_); clear hK K; refine wq1 4 fun K hK => ?_; go_simp; refine hK _ _ (hSA _) (fun _ => ?_); clear hK K; refine wh 5 (.map (some W0.heap.size)) (hSA _) ?_; have el := lbac tLet
    rw [hkk] at el; refine wq1 17 fun K hK => ?_; go_simp; refine hK _ _ (hSA _) (fun _ => ?_); clear hK K; refine wh 18 (nPtr w.heap.size) (hSA _) ?_; refine wh 19 (.pointer (some ⟨w.heap.size, 0, none⟩)) (hSA _) ?_
    have z0 : (W0.alloc (.map mbac 3)).cell? ⟨w.heap.size, 0, none⟩ = some (.int .i64 0) := by rw [World.cell?_alloc_past _ _ _ hnl0]; exact y0
    have zf : (W0.alloc (.map mbac 3)).frozen? ⟨w.heap.size, 0, none⟩ = false := by rw [World.frozen?_of_block (w := W0) (Below.heap_alloc W0 _ _ hnl0)]; exact yf
    refine wq1 20 fun K hK => ?_; go_simp; refine hK _ _ (hSB _) (fun _ => ?_); clear hK K z0 zf el; refine wpAnyH_done (by kernel_rfl) ?_ _; go_simp; exact CONT mbac
   ·
    go_simp; refine hK _ _ (hSA _) (fun _ => ?_); clear hK K; refine wq1 2 fun K hK => ?_; go_simp; refine hK _ _ (hSA _) (fun _ => ?_); clear hK K; refine wh 5 (.map (some W0.heap.size)) (hSA _) ?_; have el := lbca tLet
    rw [hkk] at el; refine wq1 17 fun K hK => ?_; go_simp; refine hK _ _ (hSA _) (fun _ => ?_); clear hK K; refine wh 18 (nPtr w.heap.size) (hSA _) ?_; refine wh 19 (.pointer (some ⟨w.heap.size, 0, none⟩)) (hSA _) ?_
    have z0 : (W0.alloc (.map mbca 3)).cell? ⟨w.heap.size, 0, none⟩ = some (.int .i64 0) := by rw [World.cell?_alloc_past _ _ _ hnl0]; exact y0
    have zf : (W0.alloc (.map mbca 3)).frozen? ⟨w.heap.size, 0, none⟩ = false := by rw [World.frozen?_of_block (w := W0) (Below.heap_alloc W0 _ _ hnl0)]; exact yf
    refine wq1 20 fun K hK => ?_; go_simp; refine hK _ _ (hSB _) (fun _ => ?_); clear hK K z0 zf el; refine wpAnyH_done (by kernel_rfl) ?_ _; go_simp; exact CONT mbca
  ·
   go_simp; refine hK _ _ (hSA _) (fun _ => ?_); clear hK K; refine wpAnyH_ready (rs := [2, 3]) (by kernel_rfl) (by simp) (AllReadyH.cons rfl (fun K hK => ?_) (AllReadyH.cons rfl (fun K hK => ?_) AllReadyH.nil))
   ·
    go_simp; refine hK _ _ (hSA _) (fun _ => ?_); clear hK K; refine wq1 3 fun K hK => ?_; go_simp; refine hK _ _ (hSA _) (fun _ => ?_); clear hK K; refine wh 5 (.map (some W0.heap.size)) (hSA _) ?_; have el := lcab tLet
    rw [hkk] at el; refine wq1 17 fun K hK => ?_; go_simp; refine hK _ _ (hSA _) (fun _ => ?_); clear hK K; refine wh 18 (nPtr w.heap.size) (hSA _) ?_; refine wh 19 (.pointer (some ⟨w.heap.size, 0, none⟩)) (hSA _) ?_
    have z0 : (W0.alloc (.map mcab 3)).cell? ⟨w.heap.size, 0, none⟩ = some (.int .i64 0) := by rw [World.cell?_alloc_past _ _ _ hnl0]; exact y0
    have zf : (W0.alloc (.map mcab 3)).frozen? ⟨w.heap.size, 0, none⟩ = false := by rw [World.frozen?_of_block (w := W0) (Below.heap_alloc W0 _ _ hnl0)]; exact yf
    refine wq1 20 fun K hK => ?_; go_simp; refine hK _ _ (hSB _) (fun _ => ?_); clear hK K z0 zf el; refine wpAnyH_done (by kernel_rfl) ?_ _; go_simp; exact CONT mcab
   ·
    go_simp; refine hK _ _ (hSA _) (fun _ => ?_); clear hK K; refine wq1 2 fun K hK => ?_; go_simp; refine hK _ _ (hSA _) (fun _ => ?_); clear hK K; refine wh 5 (.map (some W0.heap.size)) (hSA _) ?_; have el := lcba tLet
    rw [hkk] at el; refine wq1 17 fun K hK => ?_; go_simp; refine hK _ _ (hSA _) (fun _ => ?_); clear hK K; refine wh 18 (nPtr w.heap.size) (hSA _) ?_; refine wh 19 (.pointer (some ⟨w.heap.size, 0, none⟩)) (hSA _) ?_
    have z0 : (W0.alloc (.map mcba 3)).cell? ⟨w.heap.size, 0, none⟩ = some (.int .i64 0) := by rw [World.cell?_alloc_past _ _ _ hnl0]; exact y0
    have zf : (W0.alloc (.map mcba 3)).frozen? ⟨w.heap.size, 0, none⟩ = false := by rw [World.frozen?_of_block (w := W0) (Below.heap_alloc W0 _ _ hnl0)]; exact yf
    refine wq1 20 fun K hK => ?_; go_simp; refine hK _ _ (hSB _) (fun _ => ?_); clear hK K z0 zf el; refine wpAnyH_done (by kernel_rfl) ?_ _; go_simp; exact CONT mcba
 ·
  intro m; obtain ⟨W1, hW1⟩ : ∃ W1, W1 = (W0.setCell ⟨w.heap.size, 0, none⟩ (.int .i64 3)).alloc (.map m 3) := ⟨_, rfl⟩; have HK1 : Hid (Stk c w 3 i W1) := by rw [hW1]; exact zzq (HST _)
  rw [← hW1]; clear hW1 HST hSA hSB hS0 x0 x1 xf hR hT k0 k1 k2 k3 y0 yf hnl0 hkk htx; have hl := zzq HHL; have hl3 := zzq HHL3; have x1 := HK1.out.ps.c1; have xf := HK1.out.ps.fz 1; have hR := HK1.out.ps.rlt
  have HK2 := qh (HK1.out.stepped HLT.out hl); have HC := qh (zvk c _ (i + 1) HK2.out.ps); go_wp2_with fail; refine cm HC.out ?_; intro e wi hp; clear HC x1 xf hR
  cases hr : zjq c.l (i + 1) with
  | out => rw [hr] at HQ1; exact absurd HQ1.out HO.out
  | bad er pl =>
   rw [hr] at hp HQ1; have hq : r = .bad er pl := zzq HQ1; subst hq; obtain ⟨⟨v, rfl, s, rfl⟩, ⟨j, hp1⟩, he, ha⟩ := hp; have nb := (ha.block _ (zzz HK2.out.nd) (by have := zzq HLT; omega)).trans HK2.out.nd
   obtain ⟨c0, c1, c2, c3, cf⟩ := zzj nb; have cf1 := cf 1; have hnl := zzz nb
   have hbw : Below w.heap.size wi (wi.setCell ⟨w.heap.size, 1, none⟩ (.string s)) := (Below.refl w.heap.size wi).setCell (p := ⟨w.heap.size, 1, none⟩) qv _
   have HA := qh ((HK2.out.ap.next ha).trans (Ap.of hbw)); have HP := qh (hp1.ap hbw HLO.out)
   have nb2 : (wi.setCell ⟨w.heap.size, 1, none⟩ (.string s)).heap[w.heap.size]? = some (zzk 3 s 0 (.slice none 0 0)) := by rw [zz8 nb]; rfl
   obtain ⟨d0, d1, d2, d3, df⟩ := zzj nb2; have hnl2 := zzz nb2; have HC3 := qh (zvj he HP.out); have HC4 := qh (zv3 c _ j er pl he tEq HP.out); clear hp1 ha hr HQ1 nb nb2 hbw; clear HC3
   go_wp2_with fail; refine cm HC4.out ?_; rintro e wz ⟨rfl, hb⟩; have HA9 := qh (HA.out.next (Ap.of hb)); have HP9 := qh (HP.out.later hb); have HC5 := qh (zx9 c wz j er pl he zz9 HP9.out)
   clear hb HC4 c0 c1 c2 c3 cf cf1 hnl d0 d1 d2 d3 df hnl2; go_wp2_with fail; refine cm HC5.out ?_; rintro e wy ⟨rfl, rfl⟩; clear HC5; go_wp2_with fail; go_ret; exact ⟨⟨_, rfl, _, rfl⟩, ⟨j, HP9.out⟩, he, HA9.out⟩
  | ok s j =>
   rw [hr] at hp HQ1
   have HQ2 : Hid (r = if (3 : Int) = 4 ∧ ¬ fx c.l j = tEq then badF c.l 3 j else if fx c.l j = tEq then (zq2 c.l F.vl d (j + 1)).bind fun v i2 => (zz0 c.l zz9 i2).bind fun _ i3 => .ok (.mk 3 s 0 [v]) i3 else (zz0 c.l zz9 j).bind fun _ i2 => .ok (.mk 3 s 0 []) i2) := zzq HQ1
   obtain ⟨⟨v, rfl, rfl⟩, hp1, ha⟩ := hp; have HK3 := qh (HK2.out.on HLT.out hp1 ha); have HX := qh (HK3.out.text HLO.out s); have nb := HK3.out.nd; obtain ⟨c0, c1, c2, c3, cf⟩ := zzj nb; have cf1 := cf 1
   have hnl := zzz nb; obtain ⟨d0, d1, d2, d3, df⟩ := zzj HX.out.nd; have hnl2 := zzz HX.out.nd; clear hp1 ha hr HQ1 nb HK1 HK2; rw [if_neg (fun h => absurd h.1 (by decide))] at HQ2
   by_cases hx : fx c.l j = tEq
   ·
    rw [if_pos hx] at HQ2; have HEQ := qh hx; clear hx; have HY := HX; have HC4 := qh (zxq c _ j tEq (by decide) HEQ.out HY.out.ps); go_wp2_with fail; refine cm HC4.out ?_; rintro e ws ⟨rfl, hp6, ha6⟩
    have HZ := qh (HY.out.on HLT.out hp6 ha6); clear hp6 ha6 HC4 c0 c1 c2 c3 cf cf1 hnl d0 d1 d2 d3 df hnl2
    cases hr : zq2 c.l F.vl d (j + 1) with
    | out => rw [hr] at HQ2; exact absurd HQ2.out HO.out
    | bad er pl =>
     have HC := qh (HF.out.vl ws d (j + 1) _ hd hr.symm (by nofun) HZ.out.ps); rw [hr] at HQ2; have hq : r = .bad er pl := zzq HQ2; subst hq; clear hr HQ2; go_wp2_with fail; refine cm HC.out ?_
     rintro e wv ⟨⟨v, rfl, q, rfl⟩, ⟨j2, hp1⟩, he, ha⟩; have nb := (ha.block _ (zzz HZ.out.nd) (by have := zzq HLT; omega)).trans HZ.out.nd
     obtain ⟨c0, c1, c2, c3, cf⟩ := zzj nb; have cf3 := cf 3; have hnl := zzz nb; have hA := HZ.out.ap.next ha
     have HB : Hid (Below w.heap.size wv ((wv.setCell ⟨w.heap.size, 3, none⟩ (.slice (some ⟨wv.heap.size, 0, none⟩) 1 1)).alloc (.cells #[nPtr q] 22))) := ((Below.refl w.heap.size wv).setCell (p := ⟨w.heap.size, 3, none⟩) qv _).alloc (by simp; omega) _
     have HA := qh (hA.trans (Ap.of HB.out)); have HP := qh (hp1.ap HB.out HLO.out); have HC2 := qh (zx9 c _ j2 er pl he zz9 HP.out); clear hp1 ha HC nb hA; go_wp2_with fail; refine cm HC2.out ?_
     rintro e wz ⟨rfl, rfl⟩; clear HC2; go_wp2_with fail; go_ret; exact ⟨⟨_, rfl, _, rfl⟩, ⟨j2, HP.out⟩, he, HA.out⟩
    | ok t j3 =>
     have HC := qh (HF.out.vl ws d (j + 1) _ hd hr.symm (by nofun) HZ.out.ps); rw [hr] at HQ2; have hq : r = (zz0 c.l zz9 j3).bind fun _ i2 => .ok (.mk 3 s 0 [t]) i2 := zzq HQ2; have HQ3 := qh hq
     clear hr HQ2 hq; go_wp2_with fail; refine cm HC.out ?_; rintro e wv ⟨⟨v, rfl, q, rfl, hn⟩, hp1, ha⟩; have nb := (ha.block _ (zzz HZ.out.nd) (by have := zzq HLT; omega)).trans HZ.out.nd
     obtain ⟨c0, c1, c2, c3, cf⟩ := zzj nb; have cf3 := cf 3; have hnl := zzz nb; have hA := HZ.out.ap.next ha
     have HB : Hid (Below w.heap.size wv ((wv.setCell ⟨w.heap.size, 3, none⟩ (.slice (some ⟨wv.heap.size, 0, none⟩) 1 1)).alloc (.cells #[nPtr q] 22))) := ((Below.refl w.heap.size wv).setCell (p := ⟨w.heap.size, 3, none⟩) qv _).alloc (by simp; omega) _
     have HA := qh (hA.trans (Ap.of HB.out)); have HP := qh (hp1.ap HB.out HLO.out)
     have HN : Hid (NV w.heap.size ((wv.setCell ⟨w.heap.size, 3, none⟩ (.slice (some ⟨wv.heap.size, 0, none⟩) 1 1)).alloc (.cells #[nPtr q] 22)) (.mk 3 s 0 [t]) (nPtr w.heap.size)) := znj qv (zzz HZ.out.nd) (set1 wv w.heap.size _) (by simp) ha.size (by rw [zz8 nb]; rfl) (NAts.cons hn NAts.nil) rfl #[nPtr q] rfl (by simp [maxLen])
     have HC2 := qh (zx4 c _ j3 zz9 (by decide) HP.out); have HQ2 := HQ3; clear hp1 ha HC nb hA hn HQ3; go_wp2_with fail; refine cm HC2.out ?_; intro e wz hp
     cases hr2 : zz0 c.l zz9 j3 with
     | out => rw [hr2] at HQ2; exact absurd HQ2.out HO.out
     | bad er pl =>
      rw [hr2] at hp HQ2; have hq : r = .bad er pl := zzq HQ2; subst hq; obtain ⟨⟨v, rfl, rfl⟩, hp2, he, ha2⟩ := hp; have HP2 := qh hp2; have HA2 := qh (HA.out.next ha2); clear hp2 ha2 HC2 hr2; go_wp2_with fail
      go_ret; exact ⟨⟨_, rfl, _, rfl⟩, HP2.out, he, HA2.out⟩
     | ok x j2 =>
      rw [hr2] at hp HQ2; have hq : r = .ok (.mk 3 s 0 [t]) j2 := zzq HQ2; subst hq; obtain ⟨⟨v, rfl, rfl⟩, hp2, ha2⟩ := hp; have HP2 := qh hp2; have HA2 := qh (HA.out.next ha2)
      have HN2 := qh (NV.later HN.out ha2 HLT.out); clear hp2 ha2 HC2 hr2; go_wp2_with fail; go_ret; exact ⟨⟨_, rfl, HN2.out⟩, HP2.out, HA2.out⟩
   ·
    rw [if_neg hx] at HQ2; have HC4 := qh (zz1 c _ j tEq (by decide) hx HX.out.ps); clear hx; go_wp2_with fail; refine cm HC4.out ?_; rintro e wn ⟨rfl, hb⟩; have HY := qh (HX.out.below hb)
    clear hb HC4 c0 c1 c2 c3 cf cf1 hnl d0 d1 d2 d3 df hnl2; have HA := qh HY.out.ap; have HN : Hid (NV w.heap.size wn (.mk 3 s 0 []) (nPtr w.heap.size)) := st_done qv HY.out.nd zg6 NAts.nil
    have HC2 := qh (zx4 c wn j zz9 (by decide) HY.out.ps); go_wp2_with fail; refine cm HC2.out ?_; intro e wz hp
    cases hr2 : zz0 c.l zz9 j with
    | out => rw [hr2] at HQ2; exact absurd HQ2.out HO.out
    | bad er pl =>
     rw [hr2] at hp HQ2; have hq : r = .bad er pl := zzq HQ2; subst hq; obtain ⟨⟨v, rfl, rfl⟩, hp2, he, ha2⟩ := hp; have HP2 := qh hp2; have HA2 := qh (HA.out.next ha2); clear hp2 ha2 HC2 hr2; go_wp2_with fail
     go_ret; exact ⟨⟨_, rfl, _, rfl⟩, HP2.out, he, HA2.out⟩
    | ok x j2 =>
     rw [hr2] at hp HQ2; have hq : r = .ok (.mk 3 s 0 []) j2 := zzq HQ2; subst hq; obtain ⟨⟨v, rfl, rfl⟩, hp2, ha2⟩ := hp; have HP2 := qh hp2; have HA2 := qh (HA.out.next ha2)
     have HN2 := qh (NV.later HN.out ha2 HLT.out); clear hp2 ha2 HC2 hr2; go_wp2_with fail; go_ret; exact ⟨⟨_, rfl, HN2.out⟩, HP2.out, HA2.out⟩
end Go.Proofs.YtoimgcjbcbhclaaGreatDoor.Old
