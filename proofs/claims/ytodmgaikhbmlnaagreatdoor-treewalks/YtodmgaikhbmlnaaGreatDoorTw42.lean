/-
  The law's own walk, which calls itself.
-/
import Derived.Test.YtodmgaikhbmlnaaGreatDoorTw41
set_option maxRecDepth 100000
set_option maxHeartbeats 16000000
namespace Go.Proofs.YtodmgaikhbmlnaaGreatDoor
open Go.RowKit
abbrev litV (b sb cb : Nat) : Value := .func (.func 22) #[] #[.pointer (some ⟨b, 0, none⟩), .pointer (some ⟨sb, 0, none⟩), .pointer (some ⟨cb, 0, none⟩)]
theorem en22 : ∀ args W, (callFunc 22 args).run Tryz.prog W = .ok (.enter 22 args) W := fun _ _ => by kernel_rfl
theorem walkH (b sb cb B : Nat) (s : Int) (hsb : sb ≠ b) (hsB : sb < B) (hcb : cb ≠ b) (hcB : cb < B) : ∀ (m : Nat) (t : Tr), t.count ≤ m → ∀ (p : Nat) (zs : List Int) (w : World), NAt (fun x => x < B ∧ x ≠ b) w t p → Got b B zs w → w.cell? ⟨sb, 0, none⟩ = some (.int .i64 s) → w.cell? ⟨cb, 0, none⟩ = some (litV b sb cb) → zs.length + t.count ≤ 100000 →
  Calls Tryz.prog 22 #[nPtr p, .pointer (some ⟨b, 0, none⟩), .pointer (some ⟨sb, 0, none⟩), .pointer (some ⟨cb, 0, none⟩)] w fun e w' => e = .returned (.tuple #[]) ∧ Got b B (zs ++ wk s t) w' ∧ Ap b B w w' := by
 intro m
 induction m with
 | zero =>
  intro t ht
  cases t with
  | mk kd tx nn ks => rw [count_mk] at ht; omega
 | succ m ih =>
  intro t ht p zs w hnt hG hs hcl hbd; obtain ⟨u, ps, hblk, hrow, hri, hks⟩ := hnt.opens2; have hlen := NAts.length _ _ hks; have hpB : p < B ∧ p ≠ b := by
   cases t with
   | mk kd tx nn ks => rw [NAt] at hnt; exact hnt.1
  have htc : t.count = 1 + Tr.counts t.kids := by cases t with | mk kd tx nn ks => exact count_mk _ _ _ _
  have f3 := (node_cells hblk).2.2.2.1; obtain ⟨ua, uc, hu⟩ := row_shut hrow; subst hu; have hen := en22; obtain ⟨kd, hkd⟩ : ∃ kd, kd = t.kd := ⟨_, rfl⟩
  have hn : w.heap[p]? = some (nodeObj kd t.tx t.n (.slice ua ps.length uc)) := by rw [hkd]; exact hblk
  have hl : zs.length ≤ 100000 := by omega
  have HKD := hide hkd; have HHS := hide hs; have HHC := hide hcl; have HKS := hide hks; have HROW := hide hrow; have HRI := hide hri; have HIH := hide ih; have HTC := hide htc; have HHT := hide ht; have HBD := hide hbd
  have HF3 := hide f3; have HPL := hide (lt_of_heap hblk); have HPB := hide hpB; have HLEN := hide hlen; clear hs hcl hks hrow hri ih htc ht hbd hblk hnt f3 hpB hlen hkd; obtain ⟨i0, hi0, hz0, hz1, hz2⟩ := info_parts info3
  obtain ⟨hbB, hBs, v, hb, hown⟩ := hG; obtain ⟨va, vc, rfl⟩ := row_form hown; have c0 : w.cell? ⟨b, 0, none⟩ = some (.slice va zs.length vc) := by rw [cell_of hb]; rfl
  have cf := frozen_of hb 0; have hbl := lt_of_heap hb; obtain ⟨d0, _, _, _, _⟩ := node_cells hn; have hpl := lt_of_heap hn; have HOWN := hide hown; have HB := hide hb; have HND := hide hn; clear hown hb hn
  go_enter Tryz.func22, Tryz.ntmps22; go_wp2_with fail; refine via0 (G := ?G1) (fun CONT => ?_) ?_; rotate_left
  ·
   refine wp_region_any (by kernel_rfl) ?_; change wpAny _ _ _ _ _ _ _ (World.drew _); refine wt 1 (nPtr p) ?_; refine wt 2 (nPtr p) ?_; refine wt 3 (.pointer (some ⟨p, 0, none⟩)) ?_
   refine wr2 0 4 (fun K hK => ?_) fun K hK => ?_
   ·
    go_simp; refine hK _ _ ?_; clear hK K; refine wr1 4 fun K hK => ?_; go_simp; refine hK _ _ ?_; clear hK K; refine wr1 5 fun K hK => ?_; go_simp; refine hK _ _ ?_; clear hK K
    refine wpAny_same (listed' := tf 6 2) (by kernel_rfl) rfl ?_; exact CONT
   ·
    go_simp; refine hK _ _ ?_; clear hK K; refine wr2 0 5 (fun K hK => ?_) fun K hK => ?_
    ·
     go_simp; refine hK _ _ ?_; clear hK K; refine wr1 5 fun K hK => ?_; go_simp; refine hK _ _ ?_; clear hK K; exact wz 6 2 CONT
    ·
     go_simp; refine hK _ _ ?_; clear hK K; refine wr1 0 fun K hK => ?_; go_simp; refine hK _ _ ?_; clear hK K; exact wz 6 2 CONT
  ·
   refine wr1 6 fun K hK => ?_
   refine step_append_lies _ rfl _ _ 42 rfl B 3 i0 (.int .i64 0) 1 8 Tryz.underlying42 hi0 hz0 hz1 hz2 rfl (by decide) _ _ _ rfl ((HOWN.out : World.ownsRow w.drew B 3 1 _ _ _).alloc _) ⟨w.heap.size, 0, none⟩ 1 1 [.int .i64 kd] rfl rfl (one_cellsI w.drew kd _ rfl) (one_oneI kd) (by decide) (by unfold maxLen; omega) (by omega) (by simp; omega) (w.heap.size + 1) (by simp) ?_
   intro g cap w3 hown3 hgr3 _ _; refine hK _ _ ?_; clear hK K; have HGP := hide (got_push (wd := w.drew) hbB hBs HB.out HOWN.out rfl hown3 hgr3)
   have h3 : w3.heap[b]? = w.heap[b]? := (hgr3.block b (by simp; omega) (fun e => by have := (own_lt HOWN.out b e.symm).2; omega)).trans (Below.heap_alloc w.drew _ b hbl)
   have e0 : w3.cell? ⟨b, 0, none⟩ = some (.slice va zs.length vc) := (World.cell?_of_block (w := w) h3).trans c0; have ef : w3.frozen? ⟨b, 0, none⟩ = false := (World.frozen?_of_block (w := w) h3).trans cf
   have he : b < w3.heap.size := lt_of_heap (h3.trans HB.out); clear hown3 hgr3 h3 c0 cf; refine wr1 7 fun K hK => ?_; go_simp; refine hK _ _ ?_; clear hK K e0 ef he; refine wpAny_done (by kernel_rfl) ?_ _; go_simp
   obtain ⟨hg2, ha2⟩ := unhide HGP; obtain ⟨W, hW⟩ : ∃ W, W = w3.setCell ⟨b, 0, none⟩ (.slice (some ⟨g, 0, none⟩) (zs.length + 1) cap) := ⟨_, rfl⟩; rw [← hW] at hg2 ha2 ⊢
   have y0 : W.cell? ⟨p, 0, none⟩ = some (.int .i64 kd) := (ha2.cell (p := ⟨p, 0, none⟩) HPB.out.1 HPB.out.2).trans d0; have y3 := (ha2.cell (p := ⟨p, 3, none⟩) HPB.out.1 HPB.out.2).trans HF3.out; rw [HLEN.out] at y3
   have y1 : W.cell? ⟨sb, 0, none⟩ = some (.int .i64 s) := (ha2.cell (p := ⟨sb, 0, none⟩) hsB hsb).trans HHS.out; have HG2 := hide hg2; have HA2 := hide ((Ap.refl b B w).drew.trans ha2); clear hg2 ha2 hW HGP
   go_wp2_with fail
   go_loopw [5] (fun i wr => ∃ k : Nat, k ≤ t.kids.length ∧ i = .int .i64 k ∧ Got b B (zs ++ kd :: wks s (t.kids.take k)) wr ∧ Ap b B w wr ∧ (kd = s → k = 0)) (fun i _ => t.kids.length - (intOf i).toNat)
   case atStart => exact ⟨0, Nat.zero_le _, rfl, by simpa [wks] using HG2.out, HA2.out, fun _ => rfl⟩
   case round =>
    obtain ⟨k, hk, rfl, hg, hap, hks0⟩ := hrel; have HGK := hide hg; have HAK := hide hap; have HK0 := hide hks0; clear hg hap hks0 y0 y1 y3
    have x0 : wr.cell? ⟨p, 0, none⟩ = some (.int .i64 kd) := (HAK.out.cell (p := ⟨p, 0, none⟩) HPB.out.1 HPB.out.2).trans d0; have x3 := (HAK.out.cell (p := ⟨p, 3, none⟩) HPB.out.1 HPB.out.2).trans HF3.out
    rw [HLEN.out] at x3; have x1 : wr.cell? ⟨sb, 0, none⟩ = some (.int .i64 s) := (HAK.out.cell (p := ⟨sb, 0, none⟩) hsB hsb).trans HHS.out
    have hkb : t.kids.length ≤ 100000 := by have h1 := counts_len t.kids; have h2 := unhide HTC; have h3 := unhide HBD; omega
    by_cases hlt : k < t.kids.length
    ·
     have hdl : decide ((k : Int) < (t.kids.length : Int)) = true := decide_eq_true (by omega)
     by_cases hx : kd = s
     ·
      have hbn : (kd != s) = false := by rw [hx]; simp
      have HX := hide hx; clear hx; go_wp2_with fail; refine wp_region_held (S := fun X => X = wr.drew) (by kernel_rfl) ?_; change wpAnyH _ _ _ _ _ _ _ _ (World.drew _)
      refine wg 0 (.int .i64 (k : Int)) rfl (Or.inl ⟨by kernel_rfl, fun X hX => by cases hX; go_simp⟩) rfl ?_
      refine wg 1 (nPtr p) rfl (Or.inl ⟨by kernel_rfl, fun X hX => by cases hX; go_simp⟩) rfl ?_
      refine wg 2 (nPtr p) rfl (Or.inl ⟨by kernel_rfl, fun X hX => by cases hX; go_simp⟩) rfl ?_
      refine wg 3 (.pointer (some ⟨p, 3, none⟩)) rfl (Or.inl ⟨by kernel_rfl, fun X hX => by cases hX; go_simp⟩) rfl ?_
      refine wg 4 (.slice ua t.kids.length uc) rfl (Or.inl ⟨by kernel_rfl, fun X hX => by cases hX; go_simp⟩) rfl ?_
      refine wg 5 (.int .i64 (t.kids.length : Int)) rfl (Or.inl ⟨by kernel_rfl, fun X hX => by cases hX; go_simp⟩) rfl ?_
      refine wg 6 (.bool true) rfl (Or.inl ⟨by kernel_rfl, fun X hX => by cases hX; go_simp⟩) rfl ?_
      refine wg 7 (.bool true) rfl (Or.inl ⟨by kernel_rfl, fun X hX => by cases hX; go_simp⟩) rfl ?_
      refine wg 8 (nPtr p) rfl (Or.inl ⟨by kernel_rfl, fun X hX => by cases hX; go_simp⟩) rfl ?_
      refine wg 9 (nPtr p) rfl (Or.inl ⟨by kernel_rfl, fun X hX => by cases hX; go_simp⟩) rfl ?_
      refine wg 10 (.pointer (some ⟨p, 0, none⟩)) rfl (Or.inl ⟨by kernel_rfl, fun X hX => by cases hX; go_simp⟩) rfl ?_
      refine wg 11 (.int .i64 kd) rfl (Or.inl ⟨by kernel_rfl, fun X hX => by cases hX; go_simp⟩) rfl ?_
      refine wg 12 (.int .i64 s) rfl (Or.inl ⟨by kernel_rfl, fun X hX => by cases hX; go_simp⟩) rfl ?_
      refine wg 13 (.bool false) rfl (Or.inl ⟨by kernel_rfl, fun X hX => by cases hX; go_simp⟩) rfl ?_
      refine wg 14 (.bool false) rfl (Or.inl ⟨by kernel_rfl, fun X hX => by cases hX; go_simp⟩) rfl ?_
      refine wpAnyH_done (by kernel_rfl) ?_ _; go_simp; go_wp2_with fail
      go_end0
      have hk0 := unhide HK0 HX.out; subst hk0; refine ⟨rfl, ?_, HAK.out.drew⟩; have h := HGK.out.drew; rw [wk_stop (HKD.out.symm.trans HX.out), ← HKD.out]; simpa [wks] using h
     ·
      have hbn : (kd != s) = true := bne_iff_ne.2 hx; have HX := hide hx; clear hx; obtain ⟨g2, cap2, hv, hcell⟩ := row_open HROW.out (by rw [HLEN.out]; omega)
      simp only [Value.slice.injEq] at hv; obtain ⟨rfl, _, rfl⟩ := hv; obtain ⟨hkp, hnk⟩ := NAts.get _ _ HKS.out k hlt; have hgb := unhide HRI g2 rfl; have hck : wr.cell? ⟨g2, k, none⟩ = some (nPtr ps[k]) := by
       rw [HAK.out.cell (p := ⟨g2, k, none⟩) hgb.1 hgb.2]; exact hcell k hkp
      have hsk : wr.drew.drew.cell? ⟨sb, 0, none⟩ = some (.int .i64 s) := (HAK.out.cell (p := ⟨sb, 0, none⟩) hsB hsb).trans HHS.out
      have hcc : wr.cell? ⟨cb, 0, none⟩ = some (litV b sb cb) := (HAK.out.cell (p := ⟨cb, 0, none⟩) hcB hcb).trans HHC.out
      have hnk2 : NAt (fun x => x < B ∧ x ≠ b) wr.drew.drew t.kids[k] ps[k] := NAt.later (fun x hx hl => HAK.out.drew.drew.block x hx.1 hx.2) _ _ hnk; have htk := counts_take t.kids k hlt
      have hwk := wks_take s t.kids k hlt; have hwl := wks_len s (t.kids.take k); have h1 := unhide HTC; have h2 := unhide HHT; have h3 := unhide HBD
      have htot : Tr.counts (t.kids.take k) + (t.kids[k]).count ≤ Tr.counts t.kids := by
       have : Tr.counts t.kids = Tr.counts (t.kids.take (k + 1)) + Tr.counts (t.kids.drop (k + 1)) := by rw [← counts_app, List.take_append_drop]
       omega
      have HC := hide (HIH.out t.kids[k] (by omega) ps[k] _ wr.drew.drew hnk2 HGK.out.drew.drew hsk hcc (by simp; omega))
      have HWK := hide hwk; obtain ⟨q, hq⟩ : ∃ q, q = ps[k] := ⟨_, rfl⟩; rw [← hq] at hck HC; have hki : (k : Int) < (t.kids.length : Int) := by omega
      clear hcell hnk hnk2 htk h1 h2 h3 htot hq hwk hwl hsk; go_wp2_with fail; refine wp_region_held (S := fun X => X = wr.drew) (by kernel_rfl) ?_; change wpAnyH _ _ _ _ _ _ _ _ (World.drew _)
      refine wg 0 (.int .i64 (k : Int)) rfl (Or.inl ⟨by kernel_rfl, fun X hX => by cases hX; go_simp⟩) rfl ?_
      refine wg 1 (nPtr p) rfl (Or.inl ⟨by kernel_rfl, fun X hX => by cases hX; go_simp⟩) rfl ?_
      refine wg 2 (nPtr p) rfl (Or.inl ⟨by kernel_rfl, fun X hX => by cases hX; go_simp⟩) rfl ?_
      refine wg 3 (.pointer (some ⟨p, 3, none⟩)) rfl (Or.inl ⟨by kernel_rfl, fun X hX => by cases hX; go_simp⟩) rfl ?_
      refine wg 4 (.slice (some ⟨g2, 0, none⟩) t.kids.length uc) rfl (Or.inl ⟨by kernel_rfl, fun X hX => by cases hX; go_simp⟩) rfl ?_
      refine wg 5 (.int .i64 (t.kids.length : Int)) rfl (Or.inl ⟨by kernel_rfl, fun X hX => by cases hX; go_simp⟩) rfl ?_
      refine wg 6 (.bool true) rfl (Or.inl ⟨by kernel_rfl, fun X hX => by cases hX; go_simp⟩) rfl ?_
      refine wg 7 (.bool true) rfl (Or.inl ⟨by kernel_rfl, fun X hX => by cases hX; go_simp⟩) rfl ?_
      refine wg 8 (nPtr p) rfl (Or.inl ⟨by kernel_rfl, fun X hX => by cases hX; go_simp⟩) rfl ?_
      refine wg 9 (nPtr p) rfl (Or.inl ⟨by kernel_rfl, fun X hX => by cases hX; go_simp⟩) rfl ?_
      refine wg 10 (.pointer (some ⟨p, 0, none⟩)) rfl (Or.inl ⟨by kernel_rfl, fun X hX => by cases hX; go_simp⟩) rfl ?_
      refine wg 11 (.int .i64 kd) rfl (Or.inl ⟨by kernel_rfl, fun X hX => by cases hX; go_simp⟩) rfl ?_
      refine wg 12 (.int .i64 s) rfl (Or.inl ⟨by kernel_rfl, fun X hX => by cases hX; go_simp⟩) rfl ?_
      refine wg 13 (.bool true) rfl (Or.inl ⟨by kernel_rfl, fun X hX => by cases hX; go_simp⟩) rfl ?_
      refine wg 14 (.bool true) rfl (Or.inl ⟨by kernel_rfl, fun X hX => by cases hX; go_simp⟩) rfl ?_
      refine wpAnyH_done (by kernel_rfl) ?_ _; go_simp; go_wp2_with fail; refine wp_region_held (S := fun X : World => X.heap[cb]? = wr.heap[cb]? ∧ X.heap[p]? = wr.heap[p]? ∧ X.heap[g2]? = wr.heap[g2]?) (by kernel_rfl) ?_
      change wpAnyH _ _ _ _ _ _ _ _ (World.drew _); refine wg 0 (litV b sb cb) rfl (Or.inl ⟨by kernel_rfl, fun X hX => by have hh := (World.cell?_of_block (w := wr) hX.1).trans hcc; go_simp⟩) ⟨rfl, rfl, rfl⟩ ?_
      refine wh 1 (nPtr p) ⟨rfl, rfl, rfl⟩ ?_; refine wh 2 (nPtr p) ⟨rfl, rfl, rfl⟩ ?_; refine wh 3 (.pointer (some ⟨p, 3, none⟩)) ⟨rfl, rfl, rfl⟩ ?_
      refine wg 4 (.slice (some ⟨g2, 0, none⟩) t.kids.length uc) rfl (Or.inl ⟨by kernel_rfl, fun X hX => by have hh := (World.cell?_of_block (w := wr) hX.2.1).trans x3; go_simp⟩) ⟨rfl, rfl, rfl⟩ ?_
      refine wh 5 (.int .i64 (k : Int)) ⟨rfl, rfl, rfl⟩ ?_; refine wh 6 (.pointer (some ⟨g2, k, none⟩)) ⟨rfl, rfl, rfl⟩ ?_
      refine wg 7 (nPtr q) rfl (Or.inl ⟨by kernel_rfl, fun X hX => by have hh := (World.cell?_of_block (w := wr) hX.2.2).trans hck; go_simp⟩) ⟨rfl, rfl, rfl⟩ ?_
      refine wq1 8 fun K hK => ?_; go_simp; refine cm HC.out ?_; rintro e w2 ⟨rfl, hc2, ha2⟩; refine hK _ _ ⟨ha2.block _ hcB hcb, ha2.block _ HPB.out.1 HPB.out.2, ha2.block _ hgb.1 hgb.2⟩ (fun _ => ?_); clear hK K
      refine wpAnyH_done (by kernel_rfl) ?_ _; go_simp; have HC2 := hide hc2; have HA3 := hide (HAK.out.drew.drew.trans ha2); clear hc2 ha2 HC hck hcc x0 x1 x3; go_wp2_with fail
      go_roundw
      case rel => exact ⟨k + 1, by omega, by go_num, by rw [HWK.out]; have h := unhide HC2; simpa using h, HA3.out, fun h => absurd h HX.out⟩
      case measure => simp [intOf]; omega
    ·
     have hk2 : k = t.kids.length := by omega
     subst hk2; have hdl : decide ((t.kids.length : Int) < (t.kids.length : Int)) = false := decide_eq_false (by omega); go_wp2_with fail; refine wp_region_held (S := fun X => X = wr.drew) (by kernel_rfl) ?_
     change wpAnyH _ _ _ _ _ _ _ _ (World.drew _); refine wg 0 (.int .i64 (t.kids.length : Int)) rfl (Or.inl ⟨by kernel_rfl, fun X hX => by cases hX; go_simp⟩) rfl ?_
     refine wg 1 (nPtr p) rfl (Or.inl ⟨by kernel_rfl, fun X hX => by cases hX; go_simp⟩) rfl ?_
     refine wg 2 (nPtr p) rfl (Or.inl ⟨by kernel_rfl, fun X hX => by cases hX; go_simp⟩) rfl ?_
     refine wg 3 (.pointer (some ⟨p, 3, none⟩)) rfl (Or.inl ⟨by kernel_rfl, fun X hX => by cases hX; go_simp⟩) rfl ?_
     refine wg 4 (.slice ua t.kids.length uc) rfl (Or.inl ⟨by kernel_rfl, fun X hX => by cases hX; go_simp⟩) rfl ?_
     refine wg 5 (.int .i64 (t.kids.length : Int)) rfl (Or.inl ⟨by kernel_rfl, fun X hX => by cases hX; go_simp⟩) rfl ?_
     refine wg 6 (.bool false) rfl (Or.inl ⟨by kernel_rfl, fun X hX => by cases hX; go_simp⟩) rfl ?_
     refine wg 7 (.bool false) rfl (Or.inl ⟨by kernel_rfl, fun X hX => by cases hX; go_simp⟩) rfl ?_
     refine wg 8 undef rfl (Or.inr ⟨by kernel_rfl, rfl⟩) rfl ?_; refine wg 9 undef rfl (Or.inr ⟨by kernel_rfl, rfl⟩) rfl ?_; refine wg 10 undef rfl (Or.inr ⟨by kernel_rfl, rfl⟩) rfl ?_
     refine wg 11 undef rfl (Or.inr ⟨by kernel_rfl, rfl⟩) rfl ?_; refine wg 12 undef rfl (Or.inr ⟨by kernel_rfl, rfl⟩) rfl ?_; refine wg 13 undef rfl (Or.inr ⟨by kernel_rfl, rfl⟩) rfl ?_
     refine wg 14 (.bool false) rfl (Or.inl ⟨by kernel_rfl, fun X hX => by cases hX; go_simp⟩) rfl ?_
     refine wpAnyH_done (by kernel_rfl) ?_ _; go_simp; go_wp2_with fail
     go_end0
     refine ⟨rfl, ?_, HAK.out.drew⟩; have h := HGK.out.drew; rw [List.take_length] at h
     by_cases hx : kd = s
     ·
      have hk0 := unhide HK0 hx; have hnil : t.kids = [] := List.length_eq_zero_iff.1 hk0; rw [hnil] at h; rw [wk_stop (HKD.out.symm.trans hx), ← HKD.out]; simpa [wks] using h
     ·
      rw [wk_go (fun e => hx (HKD.out.trans e)), ← HKD.out]; exact h
end Go.Proofs.YtodmgaikhbmlnaaGreatDoor
