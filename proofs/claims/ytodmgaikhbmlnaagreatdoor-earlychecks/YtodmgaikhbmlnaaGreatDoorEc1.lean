/-
  Parts of proofs that stand more than once.
-/
import Derived.Test.YtodmgaikhbmlnaaGreatDoorEc0
set_option maxRecDepth 100000
set_option maxHeartbeats 16000000
namespace Go.Proofs.YtodmgaikhbmlnaaGreatDoor
open Go.RowKit
theorem zrbk {G : Prop} (h : G := by
  have HBW : ∀ v, Hid (Below w.heap.size wc (w3.setCell ⟨w.heap.size, 3, none⟩ v)) := fun v => HHY.out.op.grows ((((Below.refl _ wc).alloc hsz _).alloc (by simp; omega) _).alloc (by simp; omega) _) (by simp; omega) hgr3
  have hB3 : Below wc.heap.size wc _ := (((Below.refl wc.heap.size wc).alloc (Nat.le_refl _) (.cells #[nPtr pc] 22)).alloc (by simp) (nodeObj 13 s 0 (.slice (some ⟨wc.heap.size, 0, none⟩) 1 1))).alloc (by simp <;> omega) (.cells #[nPtr (wc.heap.size + 1)] 22)
  have hbb : w3.heap[w.heap.size]? = wc.heap[w.heap.size]? := (hgr3.block w.heap.size (by simp; omega) (fun e => HHY.out.op.own e.symm)).trans (hB3.block w.heap.size gcl)
  have HNW : ∀ v, Hid ((w3.setCell ⟨w.heap.size, 3, none⟩ v).heap[w.heap.size]? = some (nodeObj 12 noText 0 v)) := fun v => by
   show _ = _
   rw [heap_set (hbb.trans HHY.out.op.blk)]; rfl
  have hp3 : w3.cell? ⟨w.heap.size, 3, none⟩ = wc.cell? ⟨w.heap.size, 3, none⟩ ∧ w3.frozen? ⟨w.heap.size, 3, none⟩ = wc.frozen? ⟨w.heap.size, 3, none⟩ := ⟨World.cell?_of_block (w := wc) hbb, World.frozen?_of_block (w := wc) hbb⟩
  obtain ⟨hp3c, hp3f⟩ := hp3; rw [gc3] at hp3c; rw [gcf 3] at hp3f; clear hown3 hgr3 hg3 hB3 hbb; refine wt 14 (nPtr w.heap.size) ?_; refine wt 15 (.pointer (some ⟨w.heap.size, 3, none⟩)) ?_; refine wr1 16 fun K hK => ?_
  go_simp; refine hK _ _ ?_; clear hK K gc3 gcf gcl; refine wpAny_done (by kernel_rfl) ?_ _; go_simp; exact zrbkX
 ) : G := h
theorem zrbl {G : Prop} (h : G := by
  conv => arg 2; whnf
  unfold fr Q6; go_wp2_with fail; refine (isLetter_any _ _).mono ?_; rw [HLET.out]; rintro e1 w1 ⟨rfl, rfl⟩; go_wp2_with fail; refine (isDigit_any _ _).mono ?_; rw [HDIG.out]; rintro e1 w1 ⟨rfl, rfl⟩; go_wp2_with fail
  exact zrblX
 ) : G := h
theorem zrbm {G : Prop} (h : G := by
  have hlt := h.rlt; have HT : Hid (∀ (w : World), Rdr c w i d → Calls Tryz.prog 219 #[rPtr c] w fun e w' => e = .returned (.string s) ∧ Below w.heap.size w w') := fun w h => by rw [hs]; exact fixed_any c w i d h
  clear h hs ho; go_enter Tryz.func274, Tryz.ntmps274; go_wp2_with fail; refine wp_region_held (S := fun W => Rdr c W i d) (by kernel_rfl) ?_; change wpAnyH _ _ _ _ _ _ _ _ (World.drew _); refine wh 0 (rPtr c) HR.out ?_
  refine wh 1 (rPtr c) HR.out ?_; refine wh 2 (.pointer (some ⟨c.R, 3, none⟩)) HR.out ?_; refine wg 3 (.map (some c.mS)) rfl (Or.inl ⟨by kernel_rfl, fun W hW => by have hh := Rdr.c3 hW; go_simp⟩) HR.out ?_
  refine wh 4 (rPtr c) HR.out ?_; exact zrbmX
 ) : G := h
theorem zrbn {G : Prop} (h : G := by
  have HC2 := hide (rskip_no c w1 i tFunction (by decide) HNF.out HP1.out); go_wp2_with fail; refine cm HC2.out ?_; rintro e w2 ⟨rfl, hb2⟩; have HP2 := hide (HP1.out.later hb2); have HA2 := hide (HA1.out.next (Ap.of hb2))
  have HB2 := hide (HB1.out.ap (Ap.of hb2)); have HT2 := hide ((hb2.block (w.heap.size + 2) (lt_of_heap HT1.out)).trans HT1.out); have q1 := HB2.out.p.cell
  have HC3 := hide (rskip_no c w2 i tLBrace (by decide) HNB.out HP2.out); clear hb2 HC2 HP1 HA1 HB1 q0 HT1; go_wp2_with fail; refine cm HC3.out ?_; rintro e w3 ⟨rfl, hb3⟩; have HP3 := hide (HP2.out.later hb3)
  have HA3 := hide (HA2.out.next (Ap.of hb3)); have HB3 := hide (HB2.out.ap (Ap.of hb3)); have ht3 := (hb3.block (w.heap.size + 2) (lt_of_heap HT2.out)).trans HT2.out
  have t0 : w3.cell? ⟨w.heap.size + 2, 0, none⟩ = some (.int .i64 (tkA c.l i).kd) := by rw [cell_of ht3]; rfl
  have t1 : w3.cell? ⟨w.heap.size + 2, 1, none⟩ = some (.string (tkA c.l i).tx) := by rw [cell_of ht3]; rfl
  have htl := lt_of_heap ht3; have q2 := HB3.out.p.cell; have hbl := HB3.out.p.lt; have c1 := HP3.out.c1; have cf := HP3.out.fz 1; have hPl := HP3.out.rlt; obtain ⟨m1, m2, m3, m4, e0, e1, e2, e3, e4, e5⟩ := lits_made w3
  clear hb3 HC3 HP2 HA2 HB2 q1 ht3 HT2; exact zrbnX
 ) : G := h
theorem zrbo {G : Prop} (h : G := by
  rw [hr] at HC HS; simp only [bind_ok] at HS; clear hr; go_wp2_with fail; refine cm HC.out ?_; intro e w1 hp; obtain ⟨⟨v1, rfl, rfl⟩, hrd, ha⟩ := hp; clear HC; have HA1 := hide (HA0.out.next ha); have HR1 := hide hrd
  clear hrd ha HA0 HR0; exact zrboX
 ) : G := h
theorem zrbp {G : Prop} (h : G := by
  intro wc pc hY; have HHY := hide hY; clear hY; obtain ⟨gc3, gcf, gcl⟩ := HHY.out.op.cell; have hsz := HHY.out.ap.size
  have HOn : Hid (Open w.heap.size ((wc.alloc (.cells #[nPtr pc] 22)).alloc (nodeObj 14 noText 0 (.slice (some ⟨wc.heap.size, 0, none⟩) 1 1))) _ w.heap.size _ _) := (HHY.out.op.alloc (.cells #[nPtr pc] 22)).alloc (nodeObj 14 noText 0 (.slice (some ⟨wc.heap.size, 0, none⟩) 1 1))
  refine wr1 12 fun K hK => ?_
  refine step_append_lies _ rfl _ _ 36 rfl w.heap.size 22 i0 (.pointer none) 1 8 Tryz.underlying36 hi0 hz0 hz1 hz2 rfl (by decide) _ _ _ rfl (HOn.out.row.alloc _) ⟨wc.heap.size + 2, 0, none⟩ 1 1 [nPtr (wc.heap.size + 1)] rfl rfl (one_cells ((wc.alloc (.cells #[nPtr pc] 22)).alloc (nodeObj 14 noText 0 (.slice (some ⟨wc.heap.size, 0, none⟩) 1 1))) (wc.heap.size + 1) _ (by simp)) (one_one _) (by decide) (by simp [maxLen]) (by simp) (by simp; omega) (wc.heap.size + 3) (by simp) ?_
  intro g cap w3 hown3 hgr3 hg3 _; refine hK _ _ ?_; clear hK K
  have HBW : ∀ v, Hid (Below w.heap.size wc (w3.setCell ⟨w.heap.size, 3, none⟩ v)) := fun v => HHY.out.op.grows ((((Below.refl _ wc).alloc hsz _).alloc (by simp; omega) _).alloc (by simp; omega) _) (by simp; omega) hgr3
  exact zrbpX
 ) : G := h
theorem zrbq {G : Prop} (h : G := by
  go_simp; refine cm (HT.out _ HR.out) ?_; rintro e w1 ⟨rfl, hb⟩; obtain ⟨hr1, hbw, p0⟩ := sf_one HR0.out hb; have HR1 := hide hr1; have HW := hide hbw; have P0 := hide p0; clear hb hr1 hbw p0
  refine hK.out _ _ HR1.out (fun _ => ?_); clear hK K
  refine wg 6 (.tuple #[.agg #[.string x.tx, .int .i64 x.kd, .int .i64 x.parts, .int .i64 x.str], .bool true]) rfl (Or.inl ⟨by kernel_rfl, fun W hW => by have hh := HL.out W hW; go_simp⟩) HR1.out ?_
  refine wh 7 (.tuple #[.agg #[.string x.tx, .int .i64 x.kd, .int .i64 x.parts, .int .i64 x.str], .bool true]) HR1.out ?_; refine wh 8 (.agg #[.string x.tx, .int .i64 x.kd, .int .i64 x.parts, .int .i64 x.str]) HR1.out ?_
  refine wh 9 (.bool true) HR1.out ?_; refine wq1 10 fun K hK => ?_; go_simp; refine hK.out _ _ (HR1.out.alloc O160) (fun _ => ?_); clear hK K; refine wq1 11 fun K hK => ?_; go_simp
  obtain ⟨W2, hW2⟩ : ∃ W2, W2 = w1.alloc (.cells #[.string x.tx, .int .i64 x.kd, .int .i64 x.parts, .int .i64 x.str] 175) := ⟨_, rfl⟩
  obtain ⟨hr2, hb2, ⟨q0, q1, q2, q3, qf, qlt⟩, ⟨s0, s1, s2, s3, sf, slt⟩⟩ := w1_any (v0 := .string x.tx) (v1 := .int .i64 x.kd) (v2 := .int .i64 x.parts) (v3 := .int .i64 x.str) HR1.out P0.out HW.out hW2; exact zrbqX
 ) : G := h
theorem zrbr {G : Prop} (h : G := by
  have hS0 : Below w.heap.size w w.drew := (Below.refl _ _).drew; have eS := keepC HB0.out HCS.out; have e1 := keepC HB0.out HC1.out; refine wp_region_held (S := fun X => Below w.heap.size w X) (by kernel_rfl) ?_
  change wpAnyH _ _ _ _ _ _ _ _ (World.drew _); refine wh 0 spV hS0 ?_ (hy := Or.inl ⟨by kernel_rfl, fun X hX => by have hh := keepC hX eS; go_simp⟩)
  refine wh 1 (nPtr p) hS0 ?_; refine wh 2 (nPtr p) hS0 ?_; refine wh 3 (.pointer (some ⟨p, 1, none⟩)) hS0 ?_; refine wh 4 (.string tx) hS0 ?_ (hy := Or.inl ⟨by kernel_rfl, fun X hX => by have hh := keepC hX e1; go_simp⟩)
  exact zrbrX
 ) : G := h
theorem zrbs {G : Prop} (h : G := by
  refine wp_region_any (by kernel_rfl) ?_; change wpAny _ _ _ _ _ _ _ (World.drew _); refine wt 0 (nPtr p0) ?_; refine wt 1 (nPtr p0) ?_; refine wt 2 (nPtr p0) ?_; refine wt 3 (.pointer (some ⟨p0, 3, none⟩)) ?_
  exact zrbsX
 ) : G := h
theorem zrbt {G : Prop} (h : G := by
  have HX := hide (blockP_exprOk hK hr); have HC := hide (block_any hF hN w3 d j3 _ rfl (by rw [hr]; nofun) HR3.out)
  rw [hr] at HC HS; simp only [bind_ok] at HS; clear hr; go_wp2_with fail; refine cm HC.out ?_; intro e wb hp; obtain ⟨⟨vb, rfl, hn⟩, hrd, ha⟩ := hp; clear HC; have HAb := hide (HA3.out.next ha); have HRb := hide hrd
  have HLb := hide HLT.out; replace HNP := hide (NAt.later (fun b hb _ => ha.block b hb.2 (by have h1 := unhide HLT; have h2 := hb.1; omega)) _ _ HNP.out)
  have HC := hide (code_any w3.heap.size tb vb wb hn HX.out); clear hn hrd ha; go_wp2_with fail; refine cm HC.out ?_; rintro e wc ⟨rfl, hev, hbw⟩; clear HC; have HAc := hide (HAb.out.trans ((Ap.of hbw).mono HA3.out.size))
  have HRc := hide (HRb.out.ap hbw HR3.out.base.size); replace HNP := hide (NAt.mono (J := From w.heap.size) (fun b hb _ => hb.1) _ _ (NAt.later (fun b hb _ => hbw.block b hb.2) _ _ HNP.out))
  obtain ⟨pb, rfl, hnb⟩ := hev.nv; have HNB := hide (nat_mono hnb HA3.out.size); clear hev hbw hnb; exact zrbtX
 ) : G := h
theorem zrbu {G : Prop} (h : G := by
  intro wc pc hY; have HHY := hide hY; clear hY; obtain ⟨gc3, gcf, gcl⟩ := HHY.out.op.cell; have hsz := HHY.out.ap.size
  have HOn : Hid (Open w.heap.size ((wc.alloc (.cells #[nPtr pc] 22)).alloc (nodeObj 14 noText 0 (.slice (some ⟨wc.heap.size, 0, none⟩) 1 1))) _ w.heap.size _ _) := (HHY.out.op.alloc (.cells #[nPtr pc] 22)).alloc (nodeObj 14 noText 0 (.slice (some ⟨wc.heap.size, 0, none⟩) 1 1))
  refine wr1 12 fun K hK => ?_
  refine step_append_lies _ rfl _ _ 36 rfl w.heap.size 22 i0 (.pointer none) 1 8 Tryz.underlying36 hi0 hz0 hz1 hz2 rfl (by decide) _ _ _ rfl (HOn.out.row.alloc _) ⟨wc.heap.size + 2, 0, none⟩ 1 1 [nPtr (wc.heap.size + 1)] rfl rfl (one_cells ((wc.alloc (.cells #[nPtr pc] 22)).alloc (nodeObj 14 noText 0 (.slice (some ⟨wc.heap.size, 0, none⟩) 1 1))) (wc.heap.size + 1) _ (by simp)) (one_one _) (by decide) (by simp [maxLen]) (by simp) (by simp; omega) (wc.heap.size + 3) (by simp) ?_
  intro g cap w3 hown3 hgr3 hg3 _; refine hK _ _ ?_; clear hK K; exact zrbuX
 ) : G := h
theorem zrbv {G : Prop} (h : G := by
  obtain ⟨k, rfl⟩ : ∃ k, gk = k + 1 := by
   exact zbdw
  obtain ⟨q, rfl, hn⟩ := hnv; have HN := hide hn; have HPS := hide hps; have HAP := hide hap; have h0 := hps.c0; have h1 := hps.c1; have f1 := hps.fz 1; obtain ⟨k0, k1, k2, k3⟩ := hps.toks
  have hlt : (j : Int) < (c.l.length : Int) := by have := hps.lt; omega
  have hl3 := hps.base.len; have hR := hps.rlt; have hT := hps.base.tlt; have hR1 : c.P < wr.heap.size + 1 := by omega
  have hT1 : c.tb < wr.heap.size + 1 := by omega
  have hgb := (hap.block g (lt_of_heap HK.out) HGN.out).trans HK.out; have HGB := hide hgb; have hgl := lt_of_heap hgb; have hg1 : g < wr.heap.size + 1 := by omega
  have kg : wr.cell? ⟨g, o, none⟩ = some (.string s) := by rw [cell_of hgb]; exact unhide HSO
  have HC1 := hide (rok_new hps); have hnx : (tkA c.l j).kd = 5 → j + 1 < c.l.length := fun hk => next_lt hps.base.ends hps.lt (by rw [hk]; decide)
  have HNX := hide hnx; unfold rpairLoop at hq; have HQ := hide hq; clear hq hn hps hap hgb hnx; exact zrbvX
 ) : G := h
theorem zrbw {G : Prop} (h : G := by
  intro wc pc hY; have HHY := hide hY; clear hY; obtain ⟨gc3, gcf, gcl⟩ := HHY.out.op.cell; have hsz := HHY.out.ap.size
  have HOn : Hid (Open w.heap.size ((wc.alloc (.cells #[nPtr pc] 22)).alloc (nodeObj 13 s 0 (.slice (some ⟨wc.heap.size, 0, none⟩) 1 1))) _ w.heap.size _ _) := (HHY.out.op.alloc (.cells #[nPtr pc] 22)).alloc (nodeObj 13 s 0 (.slice (some ⟨wc.heap.size, 0, none⟩) 1 1))
  refine wr1 13 fun K hK => ?_
  refine step_append_lies _ rfl _ _ 36 rfl w.heap.size 22 i0 (.pointer none) 1 8 Tryz.underlying36 hi0 hz0 hz1 hz2 rfl (by decide) _ _ _ rfl (HOn.out.row.alloc _) ⟨wc.heap.size + 2, 0, none⟩ 1 1 [nPtr (wc.heap.size + 1)] rfl rfl (one_cells ((wc.alloc (.cells #[nPtr pc] 22)).alloc (nodeObj 13 s 0 (.slice (some ⟨wc.heap.size, 0, none⟩) 1 1))) (wc.heap.size + 1) _ (by simp)) (one_one _) (by decide) (by simp [maxLen]) (by simp) (by simp; omega) (wc.heap.size + 3) (by simp) ?_
  intro g cap w3 hown3 hgr3 hg3 _; refine hK _ _ ?_; clear hK K; exact zrbwX
 ) : G := h
theorem zrbx {G : Prop} (h : G := by
  have hkn : ¬ t.kids = [] := fun e => by rw [e] at hk1; exact absurd hk1 (by decide)
  obtain ⟨g, cap, q, hv, hg, hcq, hn⟩ := hrow.cell 0 (by omega); simp only [Value.slice.injEq] at hv; obtain ⟨rfl, _, rfl⟩ := hv; rw [← kidT_eq t 0 (by omega)] at hn; obtain ⟨hql, d0, d1, _⟩ := hn.cells; exact zrbxX
 ) : G := h
theorem zrby {G : Prop} (h : G := by
  have htc : t.count = 1 + Tr.counts t.kids := by cases t with | mk kd tx nn ks => exact count_mk _ _ _ _
  have hkl : t.kids.length ≤ 20000 := by have := counts_len t.kids; omega
  obtain ⟨hneed, hills⟩ := ill_of t hill; exact zrbyX
 ) : G := h
theorem zrbz {G : Prop} (h : G := by
  clear hwn hpe2; have HC := hide (take_not c tCatch wn i1 d HRn.out hc); go_wp2_with fail; refine cm HC.out ?_; rintro e wc ⟨rfl, hb⟩; clear HC; have HRc := hide (HRn.out.later hb)
  have HAc := hide (HAn.out.next (Ap.of hb)); replace HOP := hide (Open.later HOP.out (Ap.of hb) HLT.out); clear hb; have HC := hide (take_yes c tFinally wc i1 d HRc.out hf (by decide)); go_wp2_with fail
  refine cm HC.out ?_; rintro e wf ⟨rfl, hrd, ha⟩; clear HC; have HRf := hide hrd; have HAf := hide (HAc.out.next ha); replace HOP := hide (Open.later HOP.out (ha) HLT.out); clear hrd ha
  have HCF := hide (block_any hF hN wf.drew d (i1 + 1) _ rfl (by rw [hb2]; nofun) HRf.out.drew)
  rw [hb2] at HCF; obtain ⟨hc3, hcf, hcl⟩ := HOP.out.cell; obtain ⟨ua, uc, hue⟩ := HOP.out.shape; subst hue; go_wp2_with fail; exact zrbzX
 ) : G := h
theorem zrca {G : Prop} (h : G := by
  refine wp_region_any (by kernel_rfl) ?_; change wpAny _ _ _ _ _ _ _ (World.drew _); refine wt 0 (nPtr w.heap.size) ?_; refine wt 1 (nPtr w.heap.size) ?_; refine wt 2 (nPtr w.heap.size) ?_
  refine wt 3 (.pointer (some ⟨w.heap.size, 3, none⟩)) ?_; exact zrcaX
 ) : G := h
theorem zrcb {G : Prop} (h : G := by
  refine wq1 6 fun K hK => ?_; go_simp; refine cm (unhide HSP _) ?_; rintro e w5 ⟨rfl, rfl⟩; refine hK.out _ _ hS0 (fun _ => ?_); clear hK K; refine wpAnyH_done (by kernel_rfl) ?_ _; go_simp
  obtain ⟨w1, hw1⟩ : ∃ w1, w1 = w.drew := ⟨_, rfl⟩; rw [← hw1]; have HB1 : Hid (Below w.heap.size w w1) := by rw [hw1]; exact HB0.out.drew
  clear hS0 eS e1 hw1; exact zrcbX
 ) : G := h
theorem zrcc {G : Prop} (h : G := by
  have hst := pastN_stop lodB s q hqs (by unfold lodB; rw [hl, hd]; rfl)
  have hqq : e = q := by omega
  subst hqq; have HL1 := hide hl; have HD1 := hide hd; clear hl hd hst hqe; go_wp2_with fail; refine (isLetter_any _ _).mono ?_; rw [HL1.out]; rintro e2 w2 ⟨rfl, rfl⟩; go_wp2_with fail; refine (isDigit_any _ _).mono ?_
  rw [HD1.out]; rintro e2 w2 ⟨rfl, rfl⟩; exact zrccX
 ) : G := h
theorem zrcd {G : Prop} (h : G := by
  have hszR : (RW w).heap.size = w.heap.size + 2 := by simp
  have hsz2 := HB2.out.size; have hR := unhide HCR; have c0 : w3.heap[w.heap.size]? = some (.cells #[.pointer none] 22 (0, 0)) := by
   rw [ha.block _ (by omega) (by omega), HB2.out.block _ (by omega), Below.heap_alloc _ _ _ (by simp)]; exact heap_new _ _
  have c1 : w3.heap[w.heap.size + 1]? = some (.cells #[.nilIface] 29 (0, 0)) := by
   exact zbfp
  have d0 : w3.cell? ⟨w.heap.size, 0, none⟩ = some (.pointer none) := by rw [cell_of c0]; rfl
  have d0f := frozen_of c0; have d1 : w3.cell? ⟨w.heap.size + 1, 0, none⟩ = some .nilIface := by rw [cell_of c1]; rfl
  have d1f := frozen_of c1; have HBW : Hid (Below w.heap.size w w3) := by
   exact zber
  exact zrcdX
 ) : G := h
theorem zrce {G : Prop} (h : G := by
  go_simp; have HR' := hide ((HRq.out.alloc O160).drew); refine hK.out _ _ (unhide HR') (fun _ => ?_); clear hK K; refine wq1 5 fun K hK => ?_; go_simp; refine cm (fixed_any c _ i d (unhide HR')) ?_; rintro e w1 ⟨rfl, hb⟩
  have HR1 := hide ((unhide HR').later hb); have HB1 := hide (HBq.out.trans ((((Below.refl wq.heap.size wq).alloc (Nat.le_refl _) O160).drew.trans (hb.mono (by simp))).mono HBq.out.size))
  have p1 : w1.heap[wq.heap.size]? = some O160 := (hb.block _ (by simp)).trans (heap_new wq O160); obtain ⟨r0, r1, r2, r3, rf, rlt⟩ := c160 p1; have P1 := hide p1; clear hb p1; refine hK.out _ _ HR1.out (fun _ => ?_)
  clear hK K; exact zrceX
 ) : G := h
theorem zrcf {G : Prop} (h : G := by
  clear hr HQ; go_wp2_with fail; refine cm HC.out ?_; rintro e wh ⟨⟨v, rfl, q, rfl, hn⟩, hp1, ha⟩; have HNB := hide ((ha.block _ (lt_of_heap HK2.out.nd) (by have := unhide HLT; omega)).trans HK2.out.nd)
  have HA0 := hide (HK2.out.ap.next ha); have HP0 := hide hp1; have HN0 := hide hn; have HZ0 := hide ha.size; exact zrcfX
 ) : G := h
theorem zrcg {G : Prop} (h : G := by
  rw [hr] at HC HS; simp only [bind_ok] at HS; clear hr; go_wp2_with fail; refine cm HC.out ?_; intro e w3 hp; obtain ⟨⟨v3, rfl, p3, rfl, hn3⟩, hrd, ha⟩ := hp; clear HC; have HA3 := hide (HA2.out.next ha)
  have HR3 := hide hrd; have HN3 := hide (nat_mono hn3 HA2.out.size); clear hn3; clear hrd ha HA2 HR2; exact zrcgX
 ) : G := h
theorem zrch {G : Prop} (h : G := by
  refine wp_region_any (by kernel_rfl) ?_; change wpAny _ _ _ _ _ _ _ (World.drew _); refine wt 0 (nPtr w.heap.size) ?_; refine wt 1 (nPtr w.heap.size) ?_; refine wt 2 (nPtr w.heap.size) ?_
  refine wt 3 (.pointer (some ⟨w.heap.size, 3, none⟩)) ?_; refine wt 5 (pPtr c) ?_; refine wt 6 (.int .i64 (d : Int)) ?_; exact zrchX
 ) : G := h
theorem zrci {G : Prop} (h : G := by
  clear hsx; have hS0 : Below wr.heap.size wr wr.drew := (Below.refl _ _).drew; have eS := keepC HBK.out HCS.out; refine wp_region_held (S := fun X => Below wr.heap.size wr X) (by kernel_rfl) ?_
  change wpAnyH _ _ _ _ _ _ _ _ (World.drew _); refine wh 0 spV hS0 ?_ (hy := Or.inl ⟨by kernel_rfl, fun X hX => by have hh := keepC hX eS; go_simp⟩)
  refine wh 1 (nPtr q2) hS0 ?_; refine wh 2 (nPtr q2) hS0 ?_; refine wh 3 (.pointer (some ⟨q2, 1, none⟩)) hS0 ?_
  refine wh 4 (.string x) hS0 ?_ (hy := Or.inl ⟨by kernel_rfl, fun X hX => by have hh := keepC hX q1c; go_simp⟩)
  exact zrciX
 ) : G := h
theorem zrcj {G : Prop} (h : G := by
  clear h hk
  generalize tkA c.l i = t at *
  go_enter Tryz.func256, Tryz.ntmps256; go_wp2_with fail; refine cm HC1.out ?_; rintro e w1 ⟨rfl, rfl⟩; clear HC1; go_wp2_with fail
  go_region
  go_wp2_with fail; go_ret; have hn : ((i : Int) + 1) = (((i + 1 : Nat)) : Int) := by omega
  rw [hn]; exact zrcjX
 ) : G := h
theorem zrck {G : Prop} (h : G := by
  have hb4 : Below w.heap.size w x4 := by
   exact zbcd
  have hn4 : NTr x4 t p := unhide HNB x4 hb4; obtain ⟨hpl4, _, _, u4, c34, hr4⟩ := hn4.cells; obtain ⟨ua, uc, rfl⟩ := hr4.form; have HR4 := hide hr4; have HB4 := hide hb4; have HPB4 := hide hpb4
  have e34 : (x3.setCell ⟨w.heap.size, 2, none⟩ (.bool false)).cell? ⟨p, 3, none⟩ = some (.slice ua t.kids.length uc) := by rw [← hx4]; exact c34
  have hpl3 : p < x3.heap.size := by rw [hx4] at hpl4; simpa using hpl4
  clear HC2 hpb4 hb4 hn4 hr4 HPB2 c34; go_wp2_with fail; rw [← hx4]; clear hx4 d2 df dl e34 hpl3; exact zrckX
 ) : G := h
theorem zrcl {G : Prop} (h : G := by
  obtain ⟨hpl, c0, c1, u, c3, hrow⟩ := hnt.cells; obtain ⟨ua, uc, rfl⟩ := hrow.form; have HNT := hide hnt; have HCS := hide hS.hS; have HCA := hide hS.hA; have HC1 := hide c1
  have htc : t.count = 1 + Tr.counts t.kids := by cases t with | mk kd tx nn ks => exact count_mk _ _ _ _
  exact zrclX
 ) : G := h
theorem zrcm {G : Prop} (h : G := by
  have HEE := hide hee; have HLET := hide hlet; have HW := hide hw; clear hee hlet hw HE hrd; have hex2 : s.size ≤ e := by omega
  clear hex
  conv => arg 2; whnf
  unfold fr Q6; go_wp2_with fail; refine (isLetter_any _ _).mono ?_; rw [HLET.out]; rintro e1 w1 ⟨rfl, rfl⟩; go_wp2_with fail; exact zrcmX
 ) : G := h
theorem zrcn {G : Prop} (h : G := by
  go_wp2_with fail; refine cm HC.out ?_; intro e w4 hp; obtain ⟨⟨v4, rfl, p4, rfl, hn4⟩, hrd, ha⟩ := hp; have HA4 := hide (HA3.out.next ha); have HR4 := hide hrd; have HN4 := hide (apart_own HK3.out HA3.out.size hn4)
  have HK4 := hide (KV.later HK3.out ha HLT.out); exact zrcnX
 ) : G := h
theorem zrco {G : Prop} (h : G := by
  obtain ⟨g, cap, hv, hg, _, hc⟩ := srow_cell HR.out k hlt; simp only [Value.slice.injEq] at hv; obtain ⟨rfl, _, rfl⟩ := hv; have hki : (k : Int) < (l.length : Int) := by omega
  obtain ⟨x, hx⟩ : ∃ x, x = l[k] := ⟨_, rfl⟩; rw [← hx] at hc; have HX := hide hx; exact zrcoX
 ) : G := h
theorem zrcp {G : Prop} (h : G := by
  have HR0 := hide h; have HB0 := hide (Below.refl w.heap.size w); have b1 : ((tkA c.l i).kd == 1) = false := beq_eq_false_iff_ne.2 h1; have b3 : ((tkA c.l i).kd == 3) = false := beq_eq_false_iff_ne.2 h3
  have b4 : ((tkA c.l i).kd == 4) = false := beq_eq_false_iff_ne.2 h4; exact zrcpX
 ) : G := h
theorem zrcq {G : Prop} (h : G := by
  refine wh 4 (.slice (some ⟨g, 0, none⟩) 2 uc) hS0 ?_ (hy := Or.inl ⟨by kernel_rfl, fun X hX => by have hh := keepC hX e3; go_simp⟩)
  refine wh 5 (.pointer (some ⟨g, 1, none⟩)) hS0 ?_; refine wh 6 (nPtr q1) hS0 ?_ (hy := Or.inl ⟨by kernel_rfl, fun X hX => by have hh := keepC hX eq; go_simp⟩)
  refine wh 7 (nPtr q1) hS0 ?_; refine wh 8 (.pointer (some ⟨q1, 3, none⟩)) hS0 ?_; refine wh 9 (.slice ba (kidT t 1).kids.length bc) hS0 ?_ (hy := Or.inl ⟨by kernel_rfl, fun X hX => by have hh := keepC hX e4; go_simp⟩)
  exact zrcqX
 ) : G := h
theorem zrcr {G : Prop} (h : G := by
  have hRe := HLN.out.2 htw; rw [← hRe] at HGB; rw [htw] at HC; clear htw hRe HLN; go_wp2_with fail; clear x3 xq; refine cm HC.out ?_; rintro e w7 ⟨rfl, hb7⟩; have HB7 := hide (HBW.out.trans (hb7.mono HBW.out.size))
  clear HC hb7; go_wp2_with fail; have hS0 : Below w7.heap.size w7 w7.drew := (Below.refl _ _).drew; have eA := keepC HB7.out HCA.out; have e3 := keepC HB7.out HC3.out; have eq := keepC HB7.out HQ1C.out
  have e4 := keepC HB7.out HF3.out; refine wp_region_held (S := fun X => Below w7.heap.size w7 X) (by kernel_rfl) ?_; exact zrcrX
 ) : G := h
theorem zrcs {G : Prop} (h : G := by
  clear hr; go_wp2_with fail; refine cm HC.out ?_; intro e w1 hp; obtain ⟨⟨v1, rfl, p1, rfl, hn1⟩, hrd, ha⟩ := hp; clear HC; have HA1 := hide (HA0.out.next ha); have HR1 := hide hrd
  have HN1 := hide (nat_mono hn1 HA0.out.size); clear hn1; clear hrd ha HA0 HR0; exact zrcsX
 ) : G := h
theorem zrct {G : Prop} (h : G := by
  obtain ⟨c0, c1, c2, c3, cf⟩ := node_cells nb; have cf0 := cf 0; have cf3 := cf 3; have hnl := lt_of_heap nb; clear nb; go_wp2_with fail; refine cm HC.out ?_; rintro e wx ⟨rfl, hb⟩; have HK1 := hide (HK0.out.below hb)
  clear hb HC c0 c1 c2 c3 cf cf0 cf3 hnl; have x1 := HK1.out.ps.c1; have xf := HK1.out.ps.fz 1; have hR := HK1.out.ps.rlt; have hPN : c.P < w.heap.size := unhide HLT; have nb := HK1.out.nd
  obtain ⟨c0, c1, c2, c3, cf⟩ := node_cells nb; have cf0 := cf 0; have cf3 := cf 3; have hnl := lt_of_heap nb; clear nb; exact zrctX
 ) : G := h
theorem zrcu {G : Prop} (h : G := by
  go_enter Tryz.func90, Tryz.ntmps90; go_wp2_with fail; have hS0 : Below w.heap.size w w.drew := (Below.refl _ _).drew; have eA := keepC HB0.out HCA.out; have e3 := keepC HB0.out HC3.out
  refine wp_region_held (S := fun X => Below w.heap.size w X) (by kernel_rfl) ?_; exact zrcuX
 ) : G := h
theorem zrcv {G : Prop} (h : G := by
  have HIH : Hid (∀ (k : Nat) (hk : k < t.kids.length) (q : Nat) (W : World), NTr W t.kids[k] q → Calls Tryz.prog 87 #[nPtr q, plV true true true] W fun e w' => e = .returned (erV (chk t.kids[k] true true true)) ∧ Below W.heap.size W w') := fun k hk q W hq => by
   exact zbgs
  obtain ⟨er, her⟩ : ∃ er, er = wrT t true true b := ⟨_, rfl⟩; obtain ⟨ce, hcs⟩ : ∃ ce, ce = chks t.kids true true true := ⟨_, rfl⟩; rw [← her, ← hcs] at hce; simp only [← her] at HWR; rw [hce]; have HCE := hide hcs
  exact zrcvX
 ) : G := h
theorem zrcw {G : Prop} (h : G := by
  refine wq1 6 fun K hK => ?_; go_simp; refine cm (unhide HSQ _) ?_; rintro e w5 ⟨rfl, rfl⟩; refine hK.out _ _ hS0 (fun _ => ?_); clear hK K; refine wpAnyH_done (by kernel_rfl) ?_ _; go_simp
  obtain ⟨w5b, hw5b⟩ : ∃ w5b, w5b = wr.drew := ⟨_, rfl⟩; rw [← hw5b]; have HB5 : Hid (Below w.heap.size w w5b) := by rw [hw5b]; exact HBK.out.drew
  clear hS0 eS hw5b; have x3 := keepC HB5.out HC3.out; have xq := keepC HB5.out HCQ0.out; have xp := keepC HB5.out HP3.out; go_wp2_with fail; clear x3 xq xp; exact zrcwX
 ) : G := h
theorem zrcx {G : Prop} (h : G := by
  have htc : t.count = 1 + Tr.counts t.kids := by cases t with | mk kd tx nn ks => exact count_mk _ _ _ _
  have hkl : t.kids.length ≤ 20000 := by have := counts_len t.kids; omega
  have hfl := fns_len t; have hll := lets_len t; have hvl := vars_len t; exact zrcxX
 ) : G := h
theorem zrcy {G : Prop} (h : G := by
  change wpAnyH _ _ _ _ _ _ _ _ (World.drew _); refine wh 0 (nPtr p) hS0 ?_; refine wh 1 (nPtr p) hS0 ?_; refine wh 2 (.pointer (some ⟨p, 3, none⟩)) hS0 ?_
  refine wh 3 (.slice (some ⟨g, 0, none⟩) t.kids.length uc) hS0 ?_ (hy := Or.inl ⟨by kernel_rfl, fun X hX => by have hh := keepC hX e3; go_simp⟩)
  refine wh 4 (.pointer (some ⟨g, 0, none⟩)) hS0 ?_; refine wh 5 (nPtr q) hS0 ?_ (hy := Or.inl ⟨by kernel_rfl, fun X hX => by have hh := keepC hX eq; go_simp⟩)
  exact zrcyX
 ) : G := h
theorem zrcz {G : Prop} (h : G := by
  have HLO := hide HRq.out.base.size; go_wp2_with fail; refine wp_region_held (S := fun W => Rdr c W i d) (by kernel_rfl) ?_; change wpAnyH _ _ _ _ _ _ _ _ (World.drew _); refine wh 0 (rPtr c) HRq.out.drew ?_
  refine wh 1 (rPtr c) HRq.out.drew ?_; refine wh 2 (.pointer (some ⟨c.R, 3, none⟩)) HRq.out.drew ?_
  refine wg 3 (.map (some c.mS)) rfl (Or.inl ⟨by kernel_rfl, fun W hW => by have hh := Rdr.c3 hW; go_simp⟩) HRq.out.drew ?_
  refine wh 4 (rPtr c) HRq.out.drew ?_; exact zrczX
 ) : G := h
theorem zrda {G : Prop} (h : G := by
  have HEE := hide hee; have HLET := hide hlet; have HW := hide hw; clear hee hlet hw HE hrd
  conv => arg 2; whnf
  unfold fr Q6; go_wp2_with fail; refine (isLetter_any _ _).mono ?_; rw [HLET.out]; rintro e1 w1 ⟨rfl, rfl⟩; go_wp2_with fail; exact zrdaX
 ) : G := h
theorem zrdb {G : Prop} (h : G := by
  obtain ⟨g2, cap2, q2, hv, hg2, hck0, hn⟩ := HPR.out.cell k hlt; simp only [Value.slice.injEq] at hv; obtain ⟨hv, hvy, hvx⟩ := hv; subst hv; clear hvy hvx; have hck := keepC hbk hck0; obtain ⟨_, _, q10, _⟩ := hn.cells
  have q1c := keepC hbk q10; have hql2 := cell_lt q1c; have hgl2 := cell_lt hck; have hki : (k : Int) < (PS.length : Int) := by omega
  have hkc : (k : Int) ≤ (pc : Int) := by omega
  have HTA : Hid (txAt PS k = (PS[k]).tx) := txAt_eq PS k hlt; exact zrdbX
 ) : G := h
theorem zrdc {G : Prop} (h : G := by
  clear ih ht hill hc h htc hneed hills hs2 hi2 hnb her hcs hce; go_enter Tryz.func87, Tryz.ntmps87; go_wp2_with fail; refine cm (unhide HST _ ((Below.refl w.heap.size w).alloc (Nat.le_refl _) _)) ?_
  rintro e x0 ⟨rfl, rfl⟩; exact zrdcX
 ) : G := h
theorem zrdd {G : Prop} (h : G := by
  clear hr; go_wp2_with fail; refine wp_region_held (S := fun W => W.heap[ws.heap.size]? = some (.cells #[.string x.tx, .int .i64 x.kd, .int .i64 x.parts, .int .i64 x.str] 175)) (by kernel_rfl) ?_
  change wpAnyH _ _ _ _ _ _ _ _ (World.drew _); refine wh 0 (.pointer (some ⟨ws.heap.size, 1, none⟩)) HX3.out ?_
  refine wg 1 (.int .i64 x.kd) rfl (Or.inl ⟨by kernel_rfl, fun W hW => by obtain ⟨_, kk, _, _, _, _⟩ := c160 hW; go_simp⟩) HX3.out ?_
  exact zrddX
 ) : G := h
theorem zrde {G : Prop} (h : G := by
  rw [hr] at HC HS; simp only [bind_ok] at HS; clear hr; go_wp2_with fail; refine cm HC.out ?_; intro e w2 hp; obtain ⟨⟨v2, rfl, rfl⟩, hrd, ha⟩ := hp; clear HC; have HA2 := hide (HA1.out.next ha); have HR2 := hide hrd
  exact zrdeX
 ) : G := h
theorem zrdf {G : Prop} (h : G := by
  rw [hr] at HC HS; simp only [bind_ok] at HS; clear hr; go_wp2_with fail; refine cm HC.out ?_; intro e w1 hp; obtain ⟨⟨v1, rfl, hn1⟩, hrd, ha⟩ := hp; clear HC; have HA1 := hide (HA0.out.next ha); have HR1 := hide hrd
  exact zrdfX
 ) : G := h
theorem zrdg {G : Prop} (h : G := by
  go_wp2_with fail; refine wp_region_held (S := fun W => W.heap[ws.heap.size]? = some (.cells #[.string x.tx, .int .i64 x.kd, .int .i64 x.parts, .int .i64 x.str] 175)) (by kernel_rfl) ?_
  change wpAnyH _ _ _ _ _ _ _ _ (World.drew _); refine wh 0 (.pointer (some ⟨ws.heap.size, 1, none⟩)) HX3.out ?_
  refine wg 1 (.int .i64 x.kd) rfl (Or.inl ⟨by kernel_rfl, fun W hW => by obtain ⟨_, kk, _, _, _, _⟩ := c160 hW; go_simp⟩) HX3.out ?_
  exact zrdgX
 ) : G := h
theorem zrdh {G : Prop} (h : G := by
  go_enter Tryz.func170, Tryz.ntmps170; go_wp2_with fail; refine wp_region_held (S := fun W => Rdr c W i d) (by kernel_rfl) ?_; change wpAnyH _ _ _ _ _ _ _ _ (World.drew _); refine wh 0 (rPtr c) HR0.out.drew ?_
  refine wh 1 (rPtr c) HR0.out.drew ?_; refine wh 2 (.pointer (some ⟨c.R, 4, none⟩)) HR0.out.drew ?_
  refine wg 3 (.map (some c.mT)) rfl (Or.inl ⟨by kernel_rfl, fun W hW => by have hh := Rdr.c4 hW; go_simp⟩) HR0.out.drew ?_
  exact zrdhX
 ) : G := h
theorem zrdi {G : Prop} (h : G := by
  unfold erV; have HC2 := hide (unhide HFU x2 HB2.out); have d2 := HPB2.out.at.c2; have df := frozen_of HPB2.out 2; have dl := lt_of_heap HPB2.out; go_wp2_with fail; refine cm HC2.out ?_; rintro e x3 ⟨rfl, rfl⟩
  exact zrdiX
 ) : G := h
theorem zrdj {G : Prop} (h : G := by
  clear hx; go_wp2_with fail; refine cm HC3.out ?_; rintro e w6 ⟨rfl, hp6, ha6⟩; replace HOP := hide (HOP.out.stay ha6 HLT.out); replace HA := hide (HA.out.next ha6); replace HP := hide hp6; clear hp6 ha6 HC3; exact zrdjX
 ) : G := h
theorem zrdk {G : Prop} (h : G := by
  have HR0 := hide h; have HR := hide ((h.alloc O160).drew); have HR' := hide (((h.alloc O160).alloc O160).drew)
  have HL : Hid (∀ W : World, Rdr c W i d → (Instr.lookup 166 (.map (some c.mS)) (.string s) true).run Tryz.prog W = .ok (.tuple #[.agg #[.string x.tx, .int .i64 x.kd, .int .i64 x.parts, .int .i64 x.str], .bool true]) W) := fun W hW => by
   have := look_signs c s W hW.base.signs; rw [ho] at this; exact this
  exact zrdkX
 ) : G := h
theorem zrdl {G : Prop} (h : G := by
  rw [hr] at HQ; have hq : r = .bad er pl := unhide HQ; subst hq; clear hr HQ; go_wp2_with fail; refine cm HC.out ?_; rintro e wv ⟨⟨v, rfl, q, rfl⟩, ⟨j, hp1⟩, he, ha⟩
  have nb := (ha.block _ (lt_of_heap HS12.out.nd) (by have := unhide HLT; omega)).trans HS12.out.nd
  obtain ⟨c0, c1, c2, c3, cf⟩ := node_cells nb; have cf0 := cf 0; have cf3 := cf 3; have hnl := lt_of_heap nb; have hA := HS12.out.ap.next ha; exact zrdlX
 ) : G := h
theorem zrdm {G : Prop} (h : G := by
  go_wp2_with fail; refine cm HC.out ?_; rintro e w3 ⟨rfl, hb3⟩; have HA3 := hide (HA2.out.next (Ap.of hb3)); have HR3 := hide (HR2.out.later hb3); have HK3 := hide (KV.later HK2.out (Ap.of hb3) HLT.out); exact zrdmX
 ) : G := h
theorem zrdn {G : Prop} (h : G := by
  obtain ⟨ps, hown, hk4⟩ := unhide HK4; have hlen := NAts.length _ _ hk4; have hOB := own_lt hown; rw [hlen] at hown; have HOWN := hide hown; have HLEN := hide hlen; have HKK := hide hk4; have hsz := HA4.out.size
  exact zrdnX
 ) : G := h
theorem zrdo {G : Prop} (h : G := by
  have t1 : (((s[q].toNat : Nat) : Int) == 39) = true := by rw [c1]; rfl
  have t2 : (((s[q].toNat : Nat) : Int) == 10) = false := by rw [c1]; rfl
  rw [strR_quote s q said hqs (by rw [hbt]; exact c1)] at hqe
  exact zrdoX
 ) : G := h
theorem zrdp {G : Prop} (h : G := by
  rw [hs2, hi2, hfu] at hce; have hnb : ∀ W, Below w.heap.size w W → NTr W t p := fun W hW => h.later hW; have HNB := hide hnb
  have HWR := hide (fun W (hW : Below w.heap.size w W) => wrong_any t p true true b W (hnb W hW) hc hneed)
  have HFU : Hid (∀ W, Below w.heap.size w W → Calls Tryz.prog 141 #[nPtr p] W fun e w' => e = .returned (.bool true) ∧ w' = W) := fun W hW => by
   exact zbem
  exact zrdpX
 ) : G := h
theorem zrdq {G : Prop} (h : G := by
  refine wh 7 (.tuple #[.agg #[.string ⟨#[]⟩, .int .i64 0, .int .i64 0, .int .i64 0], .bool false]) HR1.out ?_; refine wh 8 (.agg #[.string ⟨#[]⟩, .int .i64 0, .int .i64 0, .int .i64 0]) HR1.out ?_
  refine wh 9 (.bool false) HR1.out ?_; refine wq1 10 fun K hK => ?_; go_simp; refine hK.out _ _ (HR1.out.alloc O160) (fun _ => ?_); clear hK K; refine wq1 11 fun K hK => ?_; go_simp; exact zrdqX
 ) : G := h
theorem zrdr {G : Prop} (h : G := by
  have HQ2 := hide hq; clear hr HQ hq; go_wp2_with fail; refine cm HC.out ?_; rintro e wv ⟨⟨v, rfl, q, rfl, hn⟩, hp1, ha⟩; have nb := (ha.block _ (lt_of_heap HS12.out.nd) (by have := unhide HLT; omega)).trans HS12.out.nd
  obtain ⟨c0, c1, c2, c3, cf⟩ := node_cells nb; have cf0 := cf 0; have cf3 := cf 3; have hnl := lt_of_heap nb; have hA := HS12.out.ap.next ha; exact zrdrX
 ) : G := h
theorem zrds {G : Prop} (h : G := by
  have hkk : k = (letsT (kidT t 1)).length := by omega
  subst hkk; have hno : (letsT (kidT t 1)).any (fun x => namedB PS x.tx) = false := by have h := unhide HNO; rwa [List.take_length] at h
  have HLN := hide (unhide HLE hno); have HC := hide (unhide HTW wr HBW.out); have x3 := keepC HBW.out HC3.out; have xq := keepC HBW.out HQ1C.out; clear hno hbk HNO HBJ HLX HLE; exact zrdsX
 ) : G := h
theorem zrdt {G : Prop} (h : G := by
  have hmf := mf_run; have HN := hide HN; have HP := hide HP
  go_enter_defers Tryz.func51, Tryz.ntmps51
  go_wp2_with fail; refine cm HN.out ?_; rintro e w2 ⟨c, rfl, hcl, hcR, hrd, hb2⟩; have HC := hide (HP.out c w2 hcl hrd); have HB2 := hide hb2; have HCR := hide hcR; clear hcl hcR hrd hb2; go_wp2_with fail
  refine cm HC.out ?_; intro e w3 hp; exact zrdtX
 ) : G := h
theorem zrdu {G : Prop} (h : G := by
  obtain ⟨hd, hhd⟩ : ∃ hd, hd = hdKind (tkA c.l i).tx := ⟨_, rfl⟩; rw [← hhd] at HS; have HC := hide (kind_any c w i d HR0.out HKD.out); rw [← hhd] at HC; clear hhd; go_wp2_with fail; refine cm HC.out ?_
  rintro e wk ⟨rfl, hrk, hak⟩; clear HC; have HRk := hide hrk; have HAk := hide (HA0.out.next hak); clear hrk hak HR0 HA0; exact zrduX
 ) : G := h
theorem zrdv {G : Prop} (h : G := by
  have HC3 := hide (rskip_no c _ j tCatch (by decide) hx HP.out); clear hx; go_wp2_with fail; refine cm HC3.out ?_; rintro e wx ⟨rfl, hb⟩; replace HOP := hide (HOP.out.stay (Ap.of hb) HLT.out)
  replace HA := hide (HA.out.next (Ap.of hb)); replace HP := hide (HP.out.later hb); clear hb HC3; clear c0 c1 c2 c3 cf cf3 hnl; have hx := hf0; exact zrdvX
 ) : G := h
theorem zrdw {G : Prop} (h : G := by
  have n4 : ¬ fx c.l i = tWhile := by rw [hf]; decide
  have n5 : ¬ fx c.l i = tWith := by rw [hf]; decide
  have n6 : ¬ fx c.l i = tTry := by rw [hf]; decide
  have n7 : ¬ fx c.l i = tVar := by rw [hf]; decide
  have n8 : ¬ fx c.l i = tLet := by rw [hf]; decide
  have n9 : ¬ fx c.l i = tConst := by rw [hf]; decide
  exact zrdwX
 ) : G := h
theorem zrdx {G : Prop} (h : G := by
  go_wp2_with fail; refine cm HC1.out ?_; rintro e w2 ⟨rfl, rfl⟩; clear HC1; go_wp2_with fail; refine cm HC2.out ?_; rintro e w3 ⟨rfl, hb3⟩; have HP3 := hide (HP1.out.later hb3); have HA3 := hide (HA1.out.next (Ap.of hb3))
  have HK3 := hide (KV.later HK1.out (Ap.of (R := c.P) hb3) HLT.out); exact zrdxX
 ) : G := h
theorem zrdy {G : Prop} (h : G := by
  refine wh 7 (.tuple #[.agg #[.string ⟨#[]⟩, .int .i64 0, .int .i64 0, .int .i64 0], .bool false]) HR1.out ?_; refine wh 8 (.agg #[.string ⟨#[]⟩, .int .i64 0, .int .i64 0, .int .i64 0]) HR1.out ?_
  refine wh 9 (.bool false) HR1.out ?_; refine wq1 11 fun K hK => ?_; go_simp; clear r0 r1 r2 r3 rf rlt; exact zrdyX
 ) : G := h
theorem zrdz {G : Prop} (h : G := by
  clear HC hr HS; go_enter Tryz.func149, Tryz.ntmps149; go_wp2_with fail; refine cm HC'.out ?_; rintro e w1 ⟨⟨v, rfl, q, rfl, hn1⟩, hp1, ha1⟩; have HP1 := hide hp1; have HA1 := hide ha1
  have HN1 : Hid (NV w.heap.size w1 t0 (nPtr q)) := ⟨q, rfl, hn1⟩; clear hp1 ha1 hn1 HC'; go_wp2_with fail; exact zrdzX
 ) : G := h
theorem zrea {G : Prop} (h : G := by
  have HQ1 : Hid (r = ((mustP c.l tOpen (j + 1)).bind fun _ i1 => (nameP c.l i1).bind fun s i2 => (mustP c.l tShut i2).bind fun _ i3 => (blockP c.l F d i3).bind fun b2 i4 => (finallyP c.l F d i4).bind fun f i5 => .ok (.mk 12 noText 0 (b :: .mk 13 s 0 [b2] :: f)) i5)) := by
   exact zbcp
  exact zreaX
 ) : G := h
theorem zreb {G : Prop} (h : G := by
  rintro e w2 ⟨y, rfl, hy, hb2⟩; have HY := hide hy; have HB2 := hide hb2; clear hy hb2; go_wp2_with fail; refine (either_any x y _ _ _ (HX.out.later HB2.out) HY.out).mono ?_; rintro e w3 ⟨z, rfl, hz, hb3⟩
  have HZ := hide hz; have HB3 := hide hb3; clear hz hb3; go_wp2_with fail; go_ret; exact zrebX
 ) : G := h
theorem zrqa.zrcqX {G : Prop} (h : G := by
  refine wh 10 (.bool true) hS0 ?_; exact zbde
 ) : G := h
theorem zrqa.zrbeX {G : Prop} (h : G := by
  exact zrcq
 ) : G := h
theorem zrqa.zrcrX {G : Prop} (h : G := by
  exact zrbe
 ) : G := h
theorem zrqa.zrdsX {G : Prop} (h : G := by
  cases htw : rtw (kidT t 1) true with
  | true =>
   exact zbeh
  | false =>
   exact zrcr
 ) : G := h
theorem zrqb.zrcqX {G : Prop} (h : G := by
  refine wh 10 (.bool false) hS0 ?_; exact zbde
 ) : G := h
theorem zrqb.zrbeX {G : Prop} (h : G := by
  exact zrcq
 ) : G := h
theorem zrqb.zrcrX {G : Prop} (h : G := by
  exact zrbe
 ) : G := h
end Go.Proofs.YtodmgaikhbmlnaaGreatDoor
