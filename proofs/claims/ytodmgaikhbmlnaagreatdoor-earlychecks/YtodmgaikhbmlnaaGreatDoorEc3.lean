/-
  Parts of proofs that stand more than once.
-/
import Derived.Test.YtodmgaikhbmlnaaGreatDoorEc2
set_option maxRecDepth 100000
set_option maxHeartbeats 16000000
namespace Go.Proofs.YtodmgaikhbmlnaaGreatDoor
open Go.RowKit
theorem zrqn.zrcyX {G : Prop} (h : G := by
  refine wh 6 (nPtr q) hS0 ?_; refine wh 7 (.pointer (some ⟨q, 0, none⟩)) hS0 ?_; refine wh 8 (.int .i64 23) hS0 ?_ (hy := Or.inl ⟨by kernel_rfl, fun X hX => by have hh := keepC hX f0; go_simp⟩)
  refine wh 9 (.bool true) hS0 ?_; refine wh 10 (.bool true) hS0 ?_; refine wh 11 spV hS0 ?_ (hy := Or.inl ⟨by kernel_rfl, fun X hX => by have hh := keepC hX eS; go_simp⟩)
  refine wh 12 (nPtr p) hS0 ?_; refine wh 13 (nPtr p) hS0 ?_; refine wh 14 (.pointer (some ⟨p, 3, none⟩)) hS0 ?_
  refine wh 15 (.slice (some ⟨g, 0, none⟩) t.kids.length uc) hS0 ?_ (hy := Or.inl ⟨by kernel_rfl, fun X hX => by have hh := keepC hX e3; go_simp⟩)
  refine wh 16 (.pointer (some ⟨g, 0, none⟩)) hS0 ?_; refine wh 17 (nPtr q) hS0 ?_ (hy := Or.inl ⟨by kernel_rfl, fun X hX => by have hh := keepC hX eq; go_simp⟩)
  refine wh 18 (nPtr q) hS0 ?_; refine wh 19 (.pointer (some ⟨q, 1, none⟩)) hS0 ?_; refine wh 20 (.string tx) hS0 ?_ (hy := Or.inl ⟨by kernel_rfl, fun X hX => by have hh := keepC hX f1; go_simp⟩)
  refine wh 21 (.bool s) hS0 ?_; refine wq1 22 fun K hK => ?_; go_simp; refine cm (unhide HSP _) ?_; rintro e w5 ⟨rfl, hw5⟩; subst hw5; refine hK.out _ _ hS0 (fun _ => ?_); clear hK K; refine wh 23 (.bool true) hS0 ?_
  refine wpAnyH_done (by kernel_rfl) ?_ _; go_simp; obtain ⟨w1, hw1⟩ : ∃ w1, w1 = w.drew := ⟨_, rfl⟩; rw [← hw1]; have HB1 : Hid (Below w.heap.size w w1) := by rw [hw1]; exact HB0.out.drew
  clear hS0 e3 eq f0 f1 eS hw1; go_wp2_with fail; go_ret; exact ⟨rfl, HB1.out⟩
 ) : G := h
theorem zrqn.zryX {G : Prop} (h : G := by
  have hrw : rwrT t s i = (if (kidT t 0).kd = 23 then nmE s (kidT t 0).tx else none) := by unfold rwrT; rw [hfu, hkd]; rfl
  rw [hrw] at hR; rw [hkd] at c0; have hL0 : (0 : Int) < (t.kids.length : Int) := by omega
  have HSP := hide (fun W => special_any s (kidT t 0).tx W); clear hsr hir hpr hrw hfu c1 hkd hn
  generalize (kidT t 0).kd = k0 at hR d0
  generalize (kidT t 0).tx = tx at hR d1 HSP
  have HCQ := hide hcq; have HD0 := hide d0; have HD1 := hide d1
  by_cases hq : k0 = 23
  ·
   subst hq; replace hR := show R = _ from hR
   rw [if_pos rfl] at hR; unfold nmE at hR
   cases hsp : (s && isSp tx) with
   | true =>
    rw [hsp] at HSP hR; clear hsp; replace hR : R = some 5 := hR; subst hR; clear d0 d1 hcq c3; clear ih hsh ht hnt hS hrow htc; go_enter Tryz.func90, Tryz.ntmps90; go_wp2_with fail
    have hS0 : Below w.heap.size w w.drew := (Below.refl _ _).drew; have e3 := unhide HC3; have eq := unhide HCQ; have f0 := unhide HD0; have f1 := unhide HD1; have eS := unhide HCS
    refine wp_region_held (S := fun X => Below w.heap.size w X) (by kernel_rfl) ?_; exact zrcy
   | false =>
    rw [hsp] at HSP hR; clear hsp; replace hR := show R = _ from hR
    simp only [Bool.false_eq_true, if_false] at hR; rw [← hR] at HGO; clear hR; clear d0 d1 hcq c3; clear ih hsh ht hnt hS hrow htc; go_enter Tryz.func90, Tryz.ntmps90; go_wp2_with fail
    have hS0 : Below w.heap.size w w.drew := (Below.refl _ _).drew; have e3 := unhide HC3; have eq := unhide HCQ; have f0 := unhide HD0; have f1 := unhide HD1; have eS := unhide HCS
    refine wp_region_held (S := fun X => Below w.heap.size w X) (by kernel_rfl) ?_; change wpAnyH _ _ _ _ _ _ _ _ (World.drew _); refine wh 0 (nPtr p) hS0 ?_; refine wh 1 (nPtr p) hS0 ?_
    refine wh 2 (.pointer (some ⟨p, 3, none⟩)) hS0 ?_; refine wh 3 (.slice (some ⟨g, 0, none⟩) t.kids.length uc) hS0 ?_ (hy := Or.inl ⟨by kernel_rfl, fun X hX => by have hh := keepC hX e3; go_simp⟩)
    refine wh 4 (.pointer (some ⟨g, 0, none⟩)) hS0 ?_; refine wh 5 (nPtr q) hS0 ?_ (hy := Or.inl ⟨by kernel_rfl, fun X hX => by have hh := keepC hX eq; go_simp⟩)
    refine wh 6 (nPtr q) hS0 ?_; refine wh 7 (.pointer (some ⟨q, 0, none⟩)) hS0 ?_; refine wh 8 (.int .i64 23) hS0 ?_ (hy := Or.inl ⟨by kernel_rfl, fun X hX => by have hh := keepC hX f0; go_simp⟩)
    refine wh 9 (.bool true) hS0 ?_; refine wh 10 (.bool true) hS0 ?_; refine wh 11 spV hS0 ?_ (hy := Or.inl ⟨by kernel_rfl, fun X hX => by have hh := keepC hX eS; go_simp⟩)
    refine wh 12 (nPtr p) hS0 ?_; refine wh 13 (nPtr p) hS0 ?_; refine wh 14 (.pointer (some ⟨p, 3, none⟩)) hS0 ?_
    refine wh 15 (.slice (some ⟨g, 0, none⟩) t.kids.length uc) hS0 ?_ (hy := Or.inl ⟨by kernel_rfl, fun X hX => by have hh := keepC hX e3; go_simp⟩)
    refine wh 16 (.pointer (some ⟨g, 0, none⟩)) hS0 ?_; refine wh 17 (nPtr q) hS0 ?_ (hy := Or.inl ⟨by kernel_rfl, fun X hX => by have hh := keepC hX eq; go_simp⟩)
    refine wh 18 (nPtr q) hS0 ?_; refine wh 19 (.pointer (some ⟨q, 1, none⟩)) hS0 ?_; refine wh 20 (.string tx) hS0 ?_ (hy := Or.inl ⟨by kernel_rfl, fun X hX => by have hh := keepC hX f1; go_simp⟩)
    refine wh 21 (.bool s) hS0 ?_; refine wq1 22 fun K hK => ?_; go_simp; refine cm (unhide HSP _) ?_; rintro e w5 ⟨rfl, hw5⟩; subst hw5; exact zbbh
  ·
   replace hR := show R = _ from hR
   rw [if_neg hq] at hR; simp only at hR; rw [← hR] at HGO; clear hR; have hq2 : (k0 == 23) = false := beq_false_of_ne hq; clear d0 d1 hcq c3 hq; clear ih hsh ht hnt hS hrow htc; go_enter Tryz.func90, Tryz.ntmps90
   go_wp2_with fail; have hS0 : Below w.heap.size w w.drew := (Below.refl _ _).drew; have e3 := unhide HC3; have eq := unhide HCQ; have f0 := unhide HD0; have f1 := unhide HD1; have eS := unhide HCS
   refine wp_region_held (S := fun X => Below w.heap.size w X) (by kernel_rfl) ?_; change wpAnyH _ _ _ _ _ _ _ _ (World.drew _); refine wh 0 (nPtr p) hS0 ?_; refine wh 1 (nPtr p) hS0 ?_
   refine wh 2 (.pointer (some ⟨p, 3, none⟩)) hS0 ?_; refine wh 3 (.slice (some ⟨g, 0, none⟩) t.kids.length uc) hS0 ?_ (hy := Or.inl ⟨by kernel_rfl, fun X hX => by have hh := keepC hX e3; go_simp⟩)
   refine wh 4 (.pointer (some ⟨g, 0, none⟩)) hS0 ?_; refine wh 5 (nPtr q) hS0 ?_ (hy := Or.inl ⟨by kernel_rfl, fun X hX => by have hh := keepC hX eq; go_simp⟩)
   refine wh 6 (nPtr q) hS0 ?_; refine wh 7 (.pointer (some ⟨q, 0, none⟩)) hS0 ?_; refine wh 8 (.int .i64 k0) hS0 ?_ (hy := Or.inl ⟨by kernel_rfl, fun X hX => by have hh := keepC hX f0; go_simp⟩)
   refine wh 9 (.bool false) hS0 ?_; refine wh 10 (.bool false) hS0 ?_; refine wg 11 undef rfl (Or.inr ⟨by kernel_rfl, rfl⟩) hS0 ?_; refine wg 12 undef rfl (Or.inr ⟨by kernel_rfl, rfl⟩) hS0 ?_
   refine wg 13 undef rfl (Or.inr ⟨by kernel_rfl, rfl⟩) hS0 ?_; refine wg 14 undef rfl (Or.inr ⟨by kernel_rfl, rfl⟩) hS0 ?_; refine wg 15 undef rfl (Or.inr ⟨by kernel_rfl, rfl⟩) hS0 ?_
   refine wg 16 undef rfl (Or.inr ⟨by kernel_rfl, rfl⟩) hS0 ?_; refine wg 17 undef rfl (Or.inr ⟨by kernel_rfl, rfl⟩) hS0 ?_; refine wg 18 undef rfl (Or.inr ⟨by kernel_rfl, rfl⟩) hS0 ?_
   refine wg 19 undef rfl (Or.inr ⟨by kernel_rfl, rfl⟩) hS0 ?_; refine wg 20 undef rfl (Or.inr ⟨by kernel_rfl, rfl⟩) hS0 ?_; refine wg 21 undef rfl (Or.inr ⟨by kernel_rfl, rfl⟩) hS0 ?_; refine wq1 22 fun K hK => ?_
   go_simp; exact zbbh
 ) : G := h
theorem zrqn.zrbxX {G : Prop} (h : G := by
  exact zeag
 ) : G := h
theorem zrqn.zriX {G : Prop} (h : G := by
  have hk1 : 1 ≤ t.kids.length := (hsh.need2).2.1 (Or.inr (Or.inl hkd)); exact zrbx
 ) : G := h
theorem zrqo.zryX {G : Prop} (h : G := by
  have hrw : rwrT t s i = oE ((s && t.kd == 9) || (t.kids.drop 1).any declK) 1 := by unfold rwrT; rw [hfu, if_neg (by decide), if_neg (by omega), if_neg (by omega), if_neg (by omega), if_pos hkd]
  rw [hrw] at hR; unfold oE at hR; obtain ⟨_, _, hv2, hcap, _⟩ := nrow_some hrow (by omega); simp only [Value.slice.injEq] at hv2; obtain ⟨hvz, hvy, hv2⟩ := hv2; rw [← hv2] at hcap; clear hv2 hvz hvy
  clear hsr hir hpr hrw hfu c1 hn d0 d1
  cases h9 : (s && t.kd == 9) with
  | true =>
   rw [h9] at hR; replace hR : R = some 1 := hR; subst hR; rw [Bool.and_eq_true, beq_iff_eq] at h9; obtain ⟨rfl, h9⟩ := h9; rw [h9] at c0; clear h9 hkd; exact zbeu
  | false =>
   rw [h9, Bool.false_or] at hR; have HRR := hide hR; have HK9 : Hid (t.kd = 9 → s = false) := fun e => by rw [e] at h9; simpa using h9
   clear hR h9 ih hsh ht hnt hS hrow htc
   rcases hkd with hk | hk | hk
   all_goals rw [hk] at c0 HK9
   all_goals clear hk
   rotate_left 2
   ·
    have h9 := unhide HK9 rfl; subst h9; exact ew_br_f
   all_goals
    cases s
    ·
     exact ew_br_f
    ·
     exact ew_br_t
 ) : G := h
theorem zrqo.zrbxX {G : Prop} (h : G := by
  have hfu : isFunT t = false := by unfold isFunT; rcases hkd with h | h | h <;> rw [h] <;> rfl
  exact zry
 ) : G := h
theorem zrqo.zriX {G : Prop} (h : G := by
  have hk2 : 2 ≤ t.kids.length := (hsh.need2).1 hkd; have hk1 : 1 ≤ t.kids.length := by omega
  exact zrbx
 ) : G := h
theorem zrqp.zrcxX {G : Prop} (h : G := by
  have hvl2 : (varsT t).length ≤ 20000 := by omega
  have HN0 := hide h; have HC1 := hide (vars_any t p w h (by omega)); unfold scE scT scU; obtain ⟨r1, er1⟩ : ∃ r, r = repB (letsT t) := ⟨_, rfl⟩
  obtain ⟨a1, ea1⟩ : ∃ r, r = (letsT t).any fun k => namedB (fnsT t) k.tx := ⟨_, rfl⟩; obtain ⟨a2, ea2⟩ : ∃ r, r = (letsT t).any fun k => hasB (varsT t) k.tx := ⟨_, rfl⟩
  obtain ⟨r2, er2⟩ : ∃ r, r = repB (fnsT t) := ⟨_, rfl⟩; obtain ⟨a3, ea3⟩ : ∃ r, r = (fnsT t).any fun k => hasB (varsT t) k.tx := ⟨_, rfl⟩; rw [← er1, ← ea1, ← ea2, ← er2, ← ea3]; have HE1 := hide er1; have HE2 := hide ea1
  have HE3 := hide ea2; have HE4 := hide er2; have HE5 := hide ea3; clear h htc hvl hc er1 ea1 ea2 er2 ea3; go_enter Tryz.func203, Tryz.ntmps203; go_wp2_with fail; refine cm HC1.out ?_; rintro e w1 ⟨⟨u1, rfl, hr1⟩, hb1⟩
  obtain ⟨va, vc, rfl⟩ := srow_form hr1; have HB1 := hide hb1; have HV1 := hide hr1; have HC2 := hide (funcs_any t p w1 (HN0.out.later hb1) (by omega)); clear HC1 hr1 hb1; go_wp2_with fail; refine cm HC2.out ?_
  rintro e w2 ⟨⟨u2, rfl, hr2⟩, hb2⟩; obtain ⟨fa, fc, rfl⟩ := hr2.form; have HB2 := hide (HB1.out.trans (hb2.mono HB1.out.size)); have HV2 := hide (SRow.later HV1.out hb2); have HF2 := hide hr2
  have HC3 := hide (lets_any t p w2 (HN0.out.later HB2.out) (by omega)); clear HC2 hr2 hb2; go_wp2_with fail; refine cm HC3.out ?_; rintro e w3 ⟨⟨u3, rfl, hr3⟩, hb3⟩; obtain ⟨la, lc, rfl⟩ := hr3.form
  have HB3 := hide (HB2.out.trans (hb3.mono HB2.out.size)); have HV3 := hide (SRow.later HV2.out hb3); have HF3 := hide (HF2.out.later hb3); have HL3 := hide hr3; clear HC3 hr3 hb3; go_wp2_with fail
  obtain ⟨wA, hwA⟩ : ∃ wA, wA = (w3.alloc (.cells #[.slice va (varsT t).length vc] 54)).alloc (.cells #[.slice fa (fnsT t).length fc] 36) := ⟨_, rfl⟩
  have hbA : Below w3.heap.size w3 wA := by rw [hwA]; exact ((Below.refl _ _).alloc (Nat.le_refl _) _).alloc (by simp) _
  have hsA : wA.heap.size = w3.heap.size + 2 := by rw [hwA]; simp
  have cV : wA.cell? ⟨w3.heap.size, 0, none⟩ = some (.slice va (varsT t).length vc) := by
   have h1 : wA.heap[w3.heap.size]? = some (.cells #[.slice va (varsT t).length vc] 54 (0, 0)) := by rw [hwA, Below.heap_alloc _ _ _ (by simp), heap_new]
   rw [cell_of h1]; rfl
  have cF : wA.cell? ⟨w3.heap.size + 1, 0, none⟩ = some (.slice fa (fnsT t).length fc) := by
   have h1 : wA.heap[w3.heap.size + 1]? = some (.cells #[.slice fa (fnsT t).length fc] 36 (0, 0)) := by
    have h2 := heap_new (w3.alloc (.cells #[.slice va (varsT t).length vc] 54)) (.cells #[.slice fa (fnsT t).length fc] 36); rw [hwA]; simpa using h2
   rw [cell_of h1]; rfl
  have SC := hide (scAt t wA w3.heap.size (w3.heap.size + 1) 0 va fa la vc fc lc (srow_mono (SRow.later HV3.out hbA) (Nat.zero_le _)) (nrow_mono (HF3.out.later hbA) (Nat.zero_le _)) (nrow_mono (HL3.out.later hbA) (Nat.zero_le _)) cV cF (by omega) (by omega) (by omega))
  rw [← HE1.out, ← HE2.out, ← HE3.out, ← HE4.out, ← HE5.out] at SC; have HS0 : Hid (Below wA.heap.size wA wA) := Below.refl _ _; have HBA := hide (HB3.out.trans (hbA.mono HB3.out.size)); rw [← hwA]
  clear HE1 HE2 HE3 HE4 HE5 HV3 HF3 HL3 HV2 HF2 HV1 HB1 HB2 HB3 HN0 hbA cV hwA
  generalize (letsT t).length = ll at SC hll
  generalize (fnsT t).length = fl at SC hfl cF
  generalize (varsT t).length = vl at hvl2
  cases body with
  | true =>
   cases r1 with
   | true =>
    exact zbep
   | false =>
    refine cm (SC.out.hr1 _ HS0.out) ?_; rintro e x1 ⟨rfl, hq1⟩; have HS1 : Hid (Below wA.heap.size wA x1) := HS0.out.trans (hq1.mono HS0.out.size); clear hq1; go_wp2_with fail
    cases a1 with
    | true =>
     exact zcby
    | false =>
     refine cm (SC.out.ha1 _ HS1.out) ?_; rintro e x2 ⟨rfl, hq2⟩; have HS2 : Hid (Below wA.heap.size wA x2) := HS1.out.trans (hq2.mono HS1.out.size); clear hq2; go_wp2_with fail
     cases a2 with
     | true =>
      exact zbdd
     | false =>
      exact zbdd
  | false =>
   cases r1 with
   | true =>
    exact zbep
   | false =>
    refine cm (SC.out.hr1 _ HS0.out) ?_; rintro e x1 ⟨rfl, hq1⟩; have HS1 : Hid (Below wA.heap.size wA x1) := HS0.out.trans (hq1.mono HS0.out.size); clear hq1; go_wp2_with fail
    cases a1 with
    | true =>
     exact zcby
    | false =>
     refine cm (SC.out.ha1 _ HS1.out) ?_; rintro e x2 ⟨rfl, hq2⟩; have HS2 : Hid (Below wA.heap.size wA x2) := HS1.out.trans (hq2.mono HS1.out.size); clear hq2; go_wp2_with fail
     cases a2 with
     | true =>
      exact zbdd
     | false =>
      refine cm (SC.out.ha2 _ HS2.out) ?_; rintro e x3 ⟨rfl, hq3⟩; have HS3 : Hid (Below wA.heap.size wA x3) := HS2.out.trans (hq3.mono HS2.out.size); have hF3 := keepC HS3.out cF; have hFl3 := cell_lt hF3; clear hq3
      go_wp2_with fail
      cases r2 with
      | true =>
       refine cm (SC.out.hr2 _ HS3.out) ?_; rintro e x4 ⟨rfl, hq4⟩; have HS4 : Hid (Below wA.heap.size wA x4) := HS3.out.trans (hq4.mono HS3.out.size); clear hq4; go_wp2_with fail; go_ret
       exact ⟨rfl, HBA.out.trans (HS4.out.mono HBA.out.size)⟩
      | false =>
       refine cm (SC.out.hr2 _ HS3.out) ?_; rintro e x4 ⟨rfl, hq4⟩; have HS4 : Hid (Below wA.heap.size wA x4) := HS3.out.trans (hq4.mono HS3.out.size); have hF4 := keepC HS4.out cF; have hFl4 := cell_lt hF4; clear hq4
       go_wp2_with fail
       cases a3 with
       | true =>
        exact zbeq
       | false =>
        exact zbeq
 ) : G := h
theorem zrqq.zrrX {G : Prop} (h : G := by
  have HC := hide (wrongScope_any t p true wA hnA hc); have h0 := hpA.c0; have h1 := hpA.c1; have h2 := hpA.c2
  generalize scE t true = er at HC
  exact zbau
 ) : G := h
theorem zrqr.zrrX {G : Prop} (h : G := by
  have HC := hide (wrongScope_any t p b wA hnA hc); have h0 := hpA.c0; have h1 := hpA.c1; have h2 := hpA.c2
  generalize scE t b = er at HC
  exact zbau
 ) : G := h
theorem zrqs.zrrX {G : Prop} (h : G := by
  have HC := hide (wrongCatch_any t p s i b wA hnA hk hc); have h0 := hpA.c0; have h1 := hpA.c1; have h2 := hpA.c2
  generalize catchE t s = er at HC
  exact zbau
 ) : G := h
theorem zrqt.zrrX {G : Prop} (h : G := by
  have h1 := hpA.c1; rw [hwA] at h1 HBA; clear h hc htc hkl hnA hbA hpA hr hkd c3 c1 hwA HPL
  cases i <;>
  ·
   exact zbdu
 ) : G := h
theorem zrqu.zrrX {G : Prop} (h : G := by
  obtain ⟨g, cap, q, rfl, hg, hcq, hnq⟩ := hr.cell 0 (by omega); rw [← kidT_eq t 0 (by omega)] at hnq; obtain ⟨hql, k0, k1, _⟩ := hnq.cells; have HNM := hide (fun W => wrongName_any s i b (kidT t 0).tx W)
  have HC1 := hide (keepC hbA k1); have hpl2 := cell_lt HC1.out
  generalize (kidT t 0).tx = tx at HNM HC1 k1
  generalize (kidT t 0).kd = kk at k0
  generalize t.kids.length = L at c3 hk hkl
  generalize nmE s tx = er at HNM
  clear h hc htc hnA hbA hpA hr hkd c1 hnq k1
  by_cases h23 : kk = 23
  ·
   subst h23; simp only [if_true]; go_enter Tryz.func143, Tryz.ntmps143; go_wp2_with fail; rw [← hwA]; have hS0 : Below wA.heap.size wA wA.drew := (Below.refl _ _).drew
   refine wp_region_held (S := fun X => Below wA.heap.size wA X) (by kernel_rfl) ?_; change wpAnyH _ _ _ _ _ _ _ _ (World.drew _); refine wh 0 (nPtr q) hS0 ?_; refine wh 1 (nPtr q) hS0 ?_
   refine wh 2 (.pointer (some ⟨q, 1, none⟩)) hS0 ?_; refine wh 3 (.string tx) hS0 ?_ (hy := Or.inl ⟨by kernel_rfl, fun X hX => by have hh := keepC hX HC1.out; go_simp⟩)
   refine wh 4 (plV s i b) hS0 ?_ (hy := Or.inl ⟨by kernel_rfl, fun X hX => by
     have hh := PlAt.later HPL.out hX; have h0 := hh.c0; have h1 := hh.c1; have h2 := hh.c2; clear hh; go_simp⟩)
   refine wq1 5 fun K hK => ?_; go_simp; refine cm (HNM.out _) ?_; rintro e w2 ⟨rfl, hb2⟩
   try rw [← hwA] at hb2
   have hS2 : Below wA.heap.size wA w2 := hS0.trans (hb2.mono (Nat.le_refl _)); refine hK.out _ _ hS2 (fun _ => ?_); clear hK K; refine wh 6 (erV er) hS2 ?_; refine wpAnyH_done (by kernel_rfl) ?_ _; go_simp
   have HS2 := hide hS2; clear hb2 hS2 hS0
   cases er <;>
   ·
    unfold erV; exact zbct
  ·
   have hk23 : (kk == 23) = false := by simpa using h23
   simp only [if_neg h23]; rw [hwA] at HBA; clear h23 hwA HC1 HPL HNM; exact zbdu
 ) : G := h
theorem zrqv.zrrX {G : Prop} (h : G := by
  obtain ⟨g, cap, q, rfl, hg, hcq, hnq⟩ := hr.cell 0 (by omega); rw [← kidT_eq t 0 (by omega)] at hnq; obtain ⟨hql, k0, k1, _⟩ := hnq.cells
  generalize (kidT t 0).tx = tx at k1
  generalize (kidT t 0).kd = kk at k0
  generalize t.kids.length = L at c3 hk hkl
  have h0 := hpA.c0; rw [hwA] at h0 HBA; clear h hc htc hnA hbA hpA hr hkd c1 hnq k1 HPL hwA
  cases s with
  | false =>
   exact zbdu
  | true =>
   cases h23 : (kk == 23) <;>
   ·
    exact zbdu
 ) : G := h
theorem zrqw.zrckX {G : Prop} (h : G := by
  go_loopw [41] (fun j wr => ∃ k : Nat, k ≤ t.kids.length ∧ j = .int .i64 k ∧ chks (t.kids.take k) true i false = none ∧ Below x4.heap.size x4 wr) (fun j _ => t.kids.length - (intOf j).toNat)
  case atStart => exact ⟨0, Nat.zero_le _, rfl, by rw [List.take_zero, chks], Below.refl _ _⟩
  case round =>
   obtain ⟨k, hk, rfl, hns, hb⟩ := hrel; have HNS := hide hns; have HB := hide hb; clear hns hb
   by_cases hlt : k < t.kids.length
   ·
    obtain ⟨g, cap, q, hv, hg, hcc, hn⟩ := (HR4.out.later HB.out).cell k hlt; simp only [Value.slice.injEq] at hv; obtain ⟨rfl, _, rfl⟩ := hv; have hki : (k : Int) < (t.kids.length : Int) := by omega
    have hpw : PlB w.heap.size true i false wr := (HB.out.block w.heap.size (lt_of_heap HPB4.out)).trans HPB4.out; have h0 := hpw.at.c0; have h1 := hpw.at.c1; have h2 := hpw.at.c2; have hwl := lt_of_heap hpw
    have HC := hide (unhide HIH k hlt q wr hn); have HX1 := hide (fun e => chks_hit t.kids true i false k hlt e HNS.out); have HX2 := hide (chks_none t.kids true i false k hlt HNS.out)
    generalize chk t.kids[k] true i false = r at HC HX1 HX2
    exact zbaw
   ·
    exact zbbw
 ) : G := h
theorem zrqw.zrdiX {G : Prop} (h : G := by
  obtain ⟨x4, hx4⟩ : ∃ x4, x4 = x3.setCell ⟨w.heap.size, 2, none⟩ (.bool false) := ⟨_, rfl⟩; have hpb4 : PlB w.heap.size true i false x4 := by rw [hx4, PlB, heap_set HPB2.out]; rfl
  exact zrck
 ) : G := h
theorem zrqw.zrzX {G : Prop} (h : G := by
  have HIH : Hid (∀ (k : Nat) (hk : k < t.kids.length) (q : Nat) (W : World), NTr W t.kids[k] q → Calls Tryz.prog 87 #[nPtr q, plV true i false] W fun e w' => e = .returned (erV (chk t.kids[k] true i false)) ∧ Below W.heap.size W w') := fun k hk q W hq => by
   have h1 := counts_le t.kids k hk; exact ih t.kids[k] (by omega) (hills _ (List.getElem_mem _)) (by omega) q true i false W hq
  obtain ⟨er, her⟩ : ∃ er, er = wrT t true i b := ⟨_, rfl⟩; obtain ⟨ce, hcs⟩ : ∃ ce, ce = chks t.kids true i false := ⟨_, rfl⟩; rw [← her, ← hcs] at hce; simp only [← her] at HWR; rw [hce]; have HCE := hide hcs
  have HBA := hide ((Below.refl w.heap.size w).alloc (Nat.le_refl _) (.cells #[.bool true, .bool i, .bool b] 112)); clear ih ht hill hc h htc hneed hills hs2 hi2 hnb her hcs hce; go_enter Tryz.func87, Tryz.ntmps87
  go_wp2_with fail; refine cm (unhide HFU _ ((Below.refl w.heap.size w).alloc (Nat.le_refl _) _)) ?_; rintro e x1 ⟨rfl, rfl⟩; go_wp2_with fail
  obtain ⟨wB, hwB⟩ : ∃ wB, wB = w.alloc (.cells #[.bool true, .bool i, .bool b] 112) := ⟨_, rfl⟩; have HBB : Hid (Below w.heap.size w wB) := by rw [hwB]; exact (Below.refl _ _).alloc (Nat.le_refl _) _
  have HPB : Hid (PlB w.heap.size true i b wB) := by rw [hwB]; exact heap_new _ _
  have HC := hide (unhide HWR wB HBB.out); rw [← hwB]; refine cm HC.out ?_; rintro e x2 ⟨rfl, hq2⟩; have hpb2 : PlB w.heap.size true i b x2 := (hq2.block w.heap.size (lt_of_heap HPB.out)).trans HPB.out; exact zeae
 ) : G := h
theorem zrqw.zrbyX {G : Prop} (h : G := by
  have hs2 : s2 t true = true := by unfold s2; rw [hfu]; simp []
  have hi2 : i2 t i = i := by unfold i2; rw [hfu]; rfl
  have hce := chk_eq t true i b; rw [hs2, hi2, hfu] at hce; have hnb : ∀ W, Below w.heap.size w W → NTr W t p := fun W hW => h.later hW; have HNB := hide hnb
  have HWR := hide (fun W (hW : Below w.heap.size w W) => wrong_any t p true i b W (hnb W hW) hc hneed); exact zeaq
 ) : G := h
theorem zrqx.zrcvX {G : Prop} (h : G := by
  have HBA := hide ((Below.refl w.heap.size w).alloc (Nat.le_refl _) (.cells #[.bool true, .bool i, .bool b] 112)); clear ih ht hill hc h htc hneed hills hs2 hi2 hnb her hcs hce; go_enter Tryz.func87, Tryz.ntmps87
  exact zbag
 ) : G := h
theorem zrqx.zrzX {G : Prop} (h : G := by
  exact zrcv
 ) : G := h
theorem zrqx.zrdpX {G : Prop} (h : G := by
  exact zrz
 ) : G := h
theorem zrqx.zrbyX {G : Prop} (h : G := by
  have hs2 : s2 t true = true := by unfold s2; rw [hfu]; simp []
  have hi2 : i2 t i = true := by unfold i2; rw [hfu]; rfl
  have hce := chk_eq t true i b; exact zrdp
 ) : G := h
theorem zrqy.zrckX {G : Prop} (h : G := by
  go_loopw [41] (fun j wr => ∃ k : Nat, k ≤ t.kids.length ∧ j = .int .i64 k ∧ chks (t.kids.take k) st i false = none ∧ Below x4.heap.size x4 wr) (fun j _ => t.kids.length - (intOf j).toNat)
  case atStart => exact ⟨0, Nat.zero_le _, rfl, by rw [List.take_zero, chks], Below.refl _ _⟩
  case round =>
   obtain ⟨k, hk, rfl, hns, hb⟩ := hrel; have HNS := hide hns; have HB := hide hb; clear hns hb
   by_cases hlt : k < t.kids.length
   ·
    obtain ⟨g, cap, q, hv, hg, hcc, hn⟩ := (HR4.out.later HB.out).cell k hlt; simp only [Value.slice.injEq] at hv; obtain ⟨rfl, _, rfl⟩ := hv; have hki : (k : Int) < (t.kids.length : Int) := by omega
    have hpw : PlB w.heap.size st i false wr := (HB.out.block w.heap.size (lt_of_heap HPB4.out)).trans HPB4.out; have h0 := hpw.at.c0; have h1 := hpw.at.c1; have h2 := hpw.at.c2; have hwl := lt_of_heap hpw
    have HC := hide (unhide HIH k hlt q wr hn); have HX1 := hide (fun e => chks_hit t.kids st i false k hlt e HNS.out); have HX2 := hide (chks_none t.kids st i false k hlt HNS.out)
    generalize chk t.kids[k] st i false = r at HC HX1 HX2
    exact zbaw
   ·
    exact zbbw
 ) : G := h
theorem zrqy.zrdiX {G : Prop} (h : G := by
  obtain ⟨x4, hx4⟩ : ∃ x4, x4 = x3.setCell ⟨w.heap.size, 2, none⟩ (.bool false) := ⟨_, rfl⟩; have hpb4 : PlB w.heap.size st i false x4 := by rw [hx4, PlB, heap_set HPB2.out]; rfl
  exact zrck
 ) : G := h
theorem zrqy.zrdcX {G : Prop} (h : G := by
  go_wp2_with fail; refine cm (unhide HFU _ ((Below.refl w.heap.size w).alloc (Nat.le_refl _) _)) ?_; rintro e x1 ⟨rfl, rfl⟩; go_wp2_with fail
  obtain ⟨wB, hwB⟩ : ∃ wB, wB = w.alloc (.cells #[.bool st, .bool i, .bool b] 112) := ⟨_, rfl⟩; have HBB : Hid (Below w.heap.size w wB) := by rw [hwB]; exact (Below.refl _ _).alloc (Nat.le_refl _) _
  have HPB : Hid (PlB w.heap.size st i b wB) := by rw [hwB]; exact heap_new _ _
  have HC := hide (unhide HWR wB HBB.out); rw [← hwB]; refine cm HC.out ?_; rintro e x2 ⟨rfl, hq2⟩; have hpb2 : PlB w.heap.size st i b x2 := (hq2.block w.heap.size (lt_of_heap HPB.out)).trans HPB.out; exact zeae
 ) : G := h
theorem zrqy.zrzX {G : Prop} (h : G := by
  have HIH : Hid (∀ (k : Nat) (hk : k < t.kids.length) (q : Nat) (W : World), NTr W t.kids[k] q → Calls Tryz.prog 87 #[nPtr q, plV (strictT t) i false] W fun e w' => e = .returned (erV (chk t.kids[k] (strictT t) i false)) ∧ Below W.heap.size W w') := fun k hk q W hq => by
   have h1 := counts_le t.kids k hk; exact ih t.kids[k] (by omega) (hills _ (List.getElem_mem _)) (by omega) q (strictT t) i false W hq
  obtain ⟨er, her⟩ : ∃ er, er = wrT t (strictT t) i b := ⟨_, rfl⟩; obtain ⟨ce, hcs⟩ : ∃ ce, ce = chks t.kids (strictT t) i false := ⟨_, rfl⟩; rw [← her, ← hcs] at hce; simp only [← her] at HWR; rw [hce]
  have HCE := hide hcs; have HBA := hide ((Below.refl w.heap.size w).alloc (Nat.le_refl _) (.cells #[.bool false, .bool i, .bool b] 112))
  generalize strictT t = st at HWR HST HIH HCE
  exact zrdc
 ) : G := h
theorem zrqy.zrbyX {G : Prop} (h : G := by
  have hs2 : s2 t false = (strictT t) := by unfold s2; rw [hfu]; simp []
  have hi2 : i2 t i = i := by unfold i2; rw [hfu]; rfl
  have hce := chk_eq t false i b; rw [hs2, hi2, hfu] at hce; have hnb : ∀ W, Below w.heap.size w W → NTr W t p := fun W hW => h.later hW; have HNB := hide hnb
  have HWR := hide (fun W (hW : Below w.heap.size w W) => wrong_any t p (strictT t) i b W (hnb W hW) hc hneed); exact zeaq
 ) : G := h
theorem zrqz.zrdcX {G : Prop} (h : G := by
  exact zbag
 ) : G := h
theorem zrqz.zrcvX {G : Prop} (h : G := by
  have HBA := hide ((Below.refl w.heap.size w).alloc (Nat.le_refl _) (.cells #[.bool false, .bool i, .bool b] 112)); simp only [hst] at HST; exact zrdc
 ) : G := h
theorem zrqz.zrzX {G : Prop} (h : G := by
  exact zrcv
 ) : G := h
theorem zrqz.zrdpX {G : Prop} (h : G := by
  exact zrz
 ) : G := h
theorem zrqz.zrbyX {G : Prop} (h : G := by
  have hs2 : s2 t false = true := by unfold s2; rw [hfu]; simp [hst]
  have hi2 : i2 t i = true := by unfold i2; rw [hfu]; rfl
  have hce := chk_eq t false i b; exact zrdp
 ) : G := h
theorem zrqba.zrdiX {G : Prop} (h : G := by
  obtain ⟨x4, hx4⟩ : ∃ x4, x4 = x3.setCell ⟨w.heap.size, 2, none⟩ (.bool true) := ⟨_, rfl⟩; have hpb4 : PlB w.heap.size st true true x4 := by rw [hx4, PlB, heap_set HPB2.out]; rfl
  have hb4 : Below w.heap.size w x4 := by
   exact zbcd
  have hn4 : NTr x4 t p := unhide HNB x4 hb4; obtain ⟨hpl4, _, _, u4, c34, hr4⟩ := hn4.cells; obtain ⟨ua, uc, rfl⟩ := hr4.form; have HR4 := hide hr4; have HB4 := hide hb4; have HPB4 := hide hpb4
  have e34 : (x3.setCell ⟨w.heap.size, 2, none⟩ (.bool true)).cell? ⟨p, 3, none⟩ = some (.slice ua t.kids.length uc) := by rw [← hx4]; exact c34
  have hpl3 : p < x3.heap.size := by rw [hx4] at hpl4; simpa using hpl4
  clear HC2 hpb4 hb4 hn4 hr4 HPB2 c34; go_wp2_with fail; rw [← hx4]; clear hx4 d2 df dl e34 hpl3
  go_loopw [41] (fun j wr => ∃ k : Nat, k ≤ t.kids.length ∧ j = .int .i64 k ∧ chks (t.kids.take k) st true true = none ∧ Below x4.heap.size x4 wr) (fun j _ => t.kids.length - (intOf j).toNat)
  case atStart => exact ⟨0, Nat.zero_le _, rfl, by rw [List.take_zero, chks], Below.refl _ _⟩
  case round =>
   obtain ⟨k, hk, rfl, hns, hb⟩ := hrel; have HNS := hide hns; have HB := hide hb; clear hns hb
   by_cases hlt : k < t.kids.length
   ·
    obtain ⟨g, cap, q, hv, hg, hcc, hn⟩ := (HR4.out.later HB.out).cell k hlt; simp only [Value.slice.injEq] at hv; obtain ⟨rfl, _, rfl⟩ := hv; have hki : (k : Int) < (t.kids.length : Int) := by omega
    have hpw : PlB w.heap.size st true true wr := (HB.out.block w.heap.size (lt_of_heap HPB4.out)).trans HPB4.out; have h0 := hpw.at.c0; have h1 := hpw.at.c1; have h2 := hpw.at.c2; have hwl := lt_of_heap hpw
    have HC := hide (unhide HIH k hlt q wr hn); have HX1 := hide (fun e => chks_hit t.kids st true true k hlt e HNS.out); have HX2 := hide (chks_none t.kids st true true k hlt HNS.out)
    generalize chk t.kids[k] st true true = r at HC HX1 HX2
    exact zbaw
   ·
    exact zbbw
 ) : G := h
theorem zrqba.zrdcX {G : Prop} (h : G := by
  go_wp2_with fail; refine cm (unhide HFU _ ((Below.refl w.heap.size w).alloc (Nat.le_refl _) _)) ?_; rintro e x1 ⟨rfl, rfl⟩; go_wp2_with fail
  refine cm (unhide HBK hfu _ ((Below.refl w.heap.size w).alloc (Nat.le_refl _) _)) ?_; rintro e x1 ⟨⟨q, rfl, hq⟩, rfl⟩; have HC := hide (unhide HSQ q _ hq); clear hq; go_wp2_with fail; refine cm HC.out ?_
  rintro e x1 ⟨rfl, rfl⟩; clear HC; go_wp2_with fail; obtain ⟨wB, hwB⟩ : ∃ wB, wB = w.alloc (.cells #[.bool st, .bool true, .bool b] 112) := ⟨_, rfl⟩
  have HBB : Hid (Below w.heap.size w wB) := by rw [hwB]; exact (Below.refl _ _).alloc (Nat.le_refl _) _
  have HPB : Hid (PlB w.heap.size st true b wB) := by rw [hwB]; exact heap_new _ _
  have HC := hide (unhide HWR wB HBB.out); rw [← hwB]; refine cm HC.out ?_; rintro e x2 ⟨rfl, hq2⟩; have hpb2 : PlB w.heap.size st true b x2 := (hq2.block w.heap.size (lt_of_heap HPB.out)).trans HPB.out; exact zeae
 ) : G := h
theorem zrqba.zrzX {G : Prop} (h : G := by
  have HIH : Hid (∀ (k : Nat) (hk : k < t.kids.length) (q : Nat) (W : World), NTr W t.kids[k] q → Calls Tryz.prog 87 #[nPtr q, plV (strictT (kidT t 1)) true true] W fun e w' => e = .returned (erV (chk t.kids[k] (strictT (kidT t 1)) true true)) ∧ Below W.heap.size W w') := fun k hk q W hq => by
   have h1 := counts_le t.kids k hk; exact ih t.kids[k] (by omega) (hills _ (List.getElem_mem _)) (by omega) q (strictT (kidT t 1)) true true W hq
  obtain ⟨er, her⟩ : ∃ er, er = wrT t (strictT (kidT t 1)) true b := ⟨_, rfl⟩; obtain ⟨ce, hcs⟩ : ∃ ce, ce = chks t.kids (strictT (kidT t 1)) true true := ⟨_, rfl⟩; rw [← her, ← hcs] at hce; simp only [← her] at HWR
  rw [hce]; have HCE := hide hcs; have HBA := hide ((Below.refl w.heap.size w).alloc (Nat.le_refl _) (.cells #[.bool false, .bool i, .bool b] 112)); simp only [hst] at HST
  generalize strictT (kidT t 1) = st at HWR HIH HCE HSQ
  exact zrdc
 ) : G := h
theorem zrqba.zrbyX {G : Prop} (h : G := by
  have hs2 : s2 t false = (strictT (kidT t 1)) := by unfold s2; rw [hfu]; simp [hst]
  have hi2 : i2 t i = true := by unfold i2; rw [hfu]; rfl
  have hce := chk_eq t false i b; rw [hs2, hi2, hfu] at hce; have hnb : ∀ W, Below w.heap.size w W → NTr W t p := fun W hW => h.later hW; have HNB := hide hnb
  have HWR := hide (fun W (hW : Below w.heap.size w W) => wrong_any t p (strictT (kidT t 1)) true b W (hnb W hW) hc hneed)
  have HFU : Hid (∀ W, Below w.heap.size w W → Calls Tryz.prog 141 #[nPtr p] W fun e w' => e = .returned (.bool true) ∧ w' = W) := fun W hW => by
   exact zbem
  exact zrz
 ) : G := h
theorem zrqbb.zrcoX {G : Prop} (h : G := by
  clear hx
  by_cases he : s = x
  ·
   subst he; go_wp2_with fail; go_ret; refine ⟨⟨k, rfl, ?_⟩, rfl⟩; rw [decide_eq_true (by omega), eq_comm, hasB_iff, HX.out]; exact List.getElem_mem _
  ·
   have hne := tl_ne he; have HE := hide he; clear he; go_wp2_with fail
   go_roundw
   case rel =>
    refine ⟨k + 1, by omega, by go_num, ?_, trivial⟩; rw [List.take_succ_eq_append_getElem hlt]; intro hm
    rcases List.mem_append.1 hm with hm | hm
    ·
     exact unhide HNS hm
    ·
     exact unhide HE (by rw [HX.out]; exact List.mem_singleton.1 hm)
   case measure => simp [intOf]; omega
 ) : G := h
theorem zrqbc.zrcoX {G : Prop} (h : G := by
  have hcr : wr.cell? ⟨g, k, none⟩ = some (.string x) := by rw [HBEL.out.cell (p := ⟨g, k, none⟩) hg]; exact hc
  have HON := hide (once_take l k hlt); have hol := once_len (l.take k); rw [List.length_take] at hol; obtain ⟨L, hL⟩ : ∃ L, L = onceL (l.take k) := ⟨_, rfl⟩; rw [← hL] at hol; have HL := hide hL
  have HOW2 : Hid (SRow w.heap.size wr (.slice oa L.length oc) L) := by
   have h := unhide HOWN; rw [← hL] at h; exact h
  rw [← hL]; have hLk : L.length ≤ k := by omega
  have HC := hide (contains_any L x _ wr HOW2.out (by omega)); have hgr : g < wr.heap.size := Nat.lt_of_lt_of_le hg HBEL.out.size; have hsz := HBEL.out.size; clear hx hc hg HOWN hL hol
  cases hh : hasB L x with
  | true =>
   rw [hh] at HC; have HH := hide hh; clear hh; go_wp2_with fail; refine cm HC.out ?_; rintro e w2 ⟨rfl, rfl⟩; clear HC; go_wp2_with fail
   go_roundw
   case rel =>
    refine ⟨k + 1, by omega, by go_num, ?_, HBEL.out⟩; rw [HON.out, ← HL.out, ← HX.out, addB, if_pos HH.out]; exact unhide HOW2
   case measure => simp [intOf]; omega
  | false =>
   rw [hh] at HC; have HH := hide hh; clear hh; go_wp2_with fail; refine cm HC.out ?_; rintro e w2 ⟨rfl, rfl⟩; clear HC
   go_wp2_with (at_builtin; refine wpList_append_lies _ rfl _ _ 54 rfl w.heap.size 9 i0 (.string ByteArray.empty) 1 16 Tryz.underlying54 hi0 hz0 hz1 hz2 rfl (by decide) _ _ _ rfl (HOW2.out.alloc _) ⟨w2.heap.size, 0, none⟩ 1 1 [.string x] rfl rfl (hoCellsS w2 x _ rfl) (hoOneS x) (by decide) (by unfold maxLen; omega) (by omega) (by simp; omega) (w2.heap.size + 1) (by simp) ?_)
   intro g' cap' w3 hown' hgrow hg' _; have HB3 := hide ((HBEL.out.alloc hsz (.cells #[.string x] 9)).grown hgrow (by simp; omega) (fun b hb => (own_lt HOW2.out b hb).2))
   have HO3 := hide hown'; clear hown' hgrow hg'; go_wp2_with fail
   go_roundw
   case rel =>
    refine ⟨k + 1, by omega, by go_num, ?_, HB3.out⟩; rw [HON.out, ← HL.out, ← HX.out, addB, if_neg (by rw [HH.out]; decide)]
    have h := unhide HO3
    show World.ownsRow _ _ _ _ _ _ _
    rw [List.length_append, List.map_append]; exact h
   case measure => simp [intOf]; omega
 ) : G := h
theorem zrqbd.zrcxX {G : Prop} (h : G := by
  have HN0 := hide h; unfold namesT; obtain ⟨F, hF⟩ : ∃ F, F = (fnsT t).map Tr.tx := ⟨_, rfl⟩; have hFl : F.length ≤ 20000 := by rw [hF, List.length_map]; omega
  obtain ⟨G, hG⟩ : ∃ G, G = (letsT t).map Tr.tx := ⟨_, rfl⟩; have hGl : G.length ≤ 20000 := by rw [hG, List.length_map]; omega
  rw [← hF, ← hG]; have HFF := hide hF; have HGG := hide hG; clear hF hG
  cases body with
  | true =>
   have HC0 := hide (vars_any t p w h (by omega)); clear h; simp only [if_true]; obtain ⟨V, hV⟩ : ∃ V, V = varsT t := ⟨_, rfl⟩; have hVl : V.length ≤ 20000 := by rw [hV]; omega
   rw [← hV] at HC0 ⊢; clear hV htc hvl; obtain ⟨VF, hVF⟩ : ∃ VF, VF = V ++ F := ⟨_, rfl⟩; obtain ⟨VFG, hVFG⟩ : ∃ VFG, VFG = VF ++ G := ⟨_, rfl⟩; rw [← hVF, ← hVFG]
   have hvf : VF.length ≤ 40000 := by rw [hVF, List.length_append]; omega
   have hvfg : VFG.length ≤ 60000 := by rw [hVFG, List.length_append]; omega
   have HVF := hide hVF; have HVFG := hide hVFG; clear hVF hVFG; go_enter Tryz.func35, Tryz.ntmps35; go_wp2_with fail; refine cm HC0.out ?_; rintro e w1 ⟨⟨u1, rfl, hr1⟩, hb1⟩; obtain ⟨a1, c1, rfl⟩ := srow_form hr1
   have HB1 := hide hb1; have HN1 := hide (HN0.out.later hb1); have HV1 := hide hr1; clear HC0 hr1 hb1; have HC := hide (funcs_any t p w1 HN1.out (by omega)); exact zbaq
  | false =>
   simp only [Bool.false_eq_true, if_false]; obtain ⟨V, hV⟩ : ∃ V : List ByteArray, V = [] := ⟨_, rfl⟩; have hVl : V.length ≤ 20000 := by rw [hV]; simp
   have HB1 : Hid (Below w.heap.size w w) := Below.refl _ _; have HN1 : Hid (NTr w t p) := h; have HV1 : Hid (SRow w.heap.size w (.slice none 0 0) V) := by rw [hV]; exact srow_nil _ _
   have HGO : Hid (∀ l, l = [] ++ F ++ G → l = V ++ F ++ G) := fun l hl => by rw [hl, hV]
   rw [unhide HGO _ rfl]; clear h hV htc hvl HGO; obtain ⟨VF, hVF⟩ : ∃ VF, VF = V ++ F := ⟨_, rfl⟩; obtain ⟨VFG, hVFG⟩ : ∃ VFG, VFG = VF ++ G := ⟨_, rfl⟩; rw [← hVF, ← hVFG]
   have hvf : VF.length ≤ 40000 := by rw [hVF, List.length_append]; omega
   have hvfg : VFG.length ≤ 60000 := by rw [hVFG, List.length_append]; omega
   have HVF := hide hVF; have HVFG := hide hVFG; clear hVF hVFG; go_enter Tryz.func35, Tryz.ntmps35; have HC := hide (funcs_any t p w HN1.out (by omega)); exact zbaq
 ) : G := h
theorem zrqbe.zrebX {G : Prop} (h : G := by
  refine ⟨z, rfl, HZ.out.congr (fun b => by show (_ || inB [95] _) = _; rw [inB_under]; rfl), ?_⟩
  exact zbfw
 ) : G := h
theorem zrqbf.zrebX {G : Prop} (h : G := by
  refine ⟨z, rfl, HZ.out.congr (fun b => rfl), ?_⟩; exact zbfw
 ) : G := h
theorem zrqbg.zrbdX {G : Prop} (h : G := by
  have HR5 := hide (HR4.out.ap (((Below.refl w.heap.size w4).alloc hsz (.cells #[nPtr p4] 22)).grown hgrow (by simp; omega) (fun k hk => (unhide HOB k hk).2)) HLO.out)
  clear hown' hgrow hg HKK HOWN; go_wp2_with fail
  go_roundw
  case rel => exact ⟨k, acc ++ [t], j2, HQ.out, HR5.out, HA5.out, HK5.out, by simp; omega, fun u hu => by
    rcases List.mem_append.1 hu with hu | hu
    ·
     exact unhide HEX u hu
    ·
     rw [List.mem_singleton] at hu; subst hu; exact unhide HFO _ _ _ _ (deepP_ok HRR.out)⟩
  case measure => rw [nxt_eq HR5.out, nxt_eq HRM.out]; omega
 ) : G := h
theorem zrqbg.zrdnX {G : Prop} (h : G := by
  have hle := unhide HLE; exact zrbd
 ) : G := h
theorem zrqbg.zrcnX {G : Prop} (h : G := by
  have hlt2 := hrd.lt; have hgt : j < j2 := by
   obtain ⟨kk, hkk⟩ := unhide HNX; exact ((deepP_nx (l := c.l) (d := 0) (hkk.st (0 + 1) j hjl)).2 t j2 HRR.out).1
  clear hrd ha hn4 HC HA3 HR3 HK3; exact zrdn
 ) : G := h
end Go.Proofs.YtodmgaikhbmlnaaGreatDoor
