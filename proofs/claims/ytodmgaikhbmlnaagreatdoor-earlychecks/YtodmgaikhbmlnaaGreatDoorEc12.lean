/-
  Parts of proofs that stand more than once.
-/
import Derived.Test.YtodmgaikhbmlnaaGreatDoorEc11
set_option maxRecDepth 100000
set_option maxHeartbeats 16000000
namespace Go.Proofs.YtodmgaikhbmlnaaGreatDoor
open Go.RowKit
theorem zbaf {G : Prop} (h : G := by
  have t1 : (((s[q].toNat : Nat) : Int) == 39) = false := by rw [show (39 : Int) = (((39 : UInt8).toNat : Nat) : Int) from rfl, b1]; simp [c1]
  by_cases c2 : s[q] = 10
  ·
   have t2 : (((s[q].toNat : Nat) : Int) == 10) = true := by rw [c2]; rfl
   rw [strR_lf s q said hqs (by rw [hbt]; exact c2)] at hqe
   cases hqe
  ·
   have t2 : (((s[q].toNat : Nat) : Int) == 10) = false := by rw [show (10 : Int) = (((10 : UInt8).toNat : Nat) : Int) from rfl, b2]; simp [c2]
   by_cases c3 : s[q] = 92
   ·
    have t3 : (((s[q].toNat : Nat) : Int) != 92) = false := by rw [c3]; rfl
    by_cases hq4 : q + 1 < s.size
    ·
     have ql2 : (((q : Int) + 1) == (s.size : Int)) = false := beq_eq_false_iff_ne.2 (by omega); have hbt2 := bt_eq s (q + 1) hq4; have d1 := byte_eq s[q + 1] 110; have d2 := byte_eq s[q + 1] 39
     have d3 := byte_eq s[q + 1] 92
     by_cases k1 : s[q + 1] = 110
     ·
      exact zcat
     ·
      have u1 : (((s[q + 1].toNat : Nat) : Int) == 110) = false := by rw [show (110 : Int) = (((110 : UInt8).toNat : Nat) : Int) from rfl, d1]; simp [k1]
      by_cases k2 : s[q + 1] = 39
      ·
       have u2 : (((s[q + 1].toNat : Nat) : Int) == 39) = true := by rw [k2]; rfl
       rw [strR_esc s q said s[q + 1] hqs (by rw [hbt]; exact c3) hq4 (by rw [hbt2, k2]; rfl)] at hqe
       have HQ := hide hqe; have hos := ofB_size said; have hos2 : (ofBytes said).size ≤ 3000 := by omega
       clear hqe hos b1 b2 b3 c1 c2 c3 hbt hbt2 d1 d2 d3 k1 k2; exact zcaz
      ·
       have u2 : (((s[q + 1].toNat : Nat) : Int) == 39) = false := by rw [show (39 : Int) = (((39 : UInt8).toNat : Nat) : Int) from rfl, d2]; simp [k2]
       by_cases k3 : s[q + 1] = 92
       ·
        have u3 : (((s[q + 1].toNat : Nat) : Int) == 92) = true := by rw [k3]; rfl
        rw [strR_esc s q said s[q + 1] hqs (by rw [hbt]; exact c3) hq4 (by rw [hbt2, k3]; rfl)] at hqe
        have HQ := hide hqe; have hos := ofB_size said; have hos2 : (ofBytes said).size ≤ 3000 := by omega
        clear hqe hos b1 b2 b3 c1 c2 c3 hbt hbt2 d1 d2 d3 k1 k2 k3; exact zcaz
       ·
        have u3 : (((s[q + 1].toNat : Nat) : Int) == 92) = false := by rw [show (92 : Int) = (((92 : UInt8).toNat : Nat) : Int) from rfl, d3]; simp [k3]
        have hno : esc (bt s (q + 1)) = none := by rw [hbt2]; simp [esc, k1, k2, k3]
        rw [strR_noesc s q said hqs (by rw [hbt]; exact c3) (fun _ => hno)] at hqe
        cases hqe
    ·
     have ql2 : (((q : Int) + 1) == (s.size : Int)) = true := beq_iff_eq.2 (by omega); rw [strR_noesc s q said hqs (by rw [hbt]; exact c3) (fun h => absurd h hq4)] at hqe
     cases hqe
   ·
    exact zcao
 ) : G := h
theorem zbag {G : Prop} (h : G := by
  go_wp2_with fail; refine cm (unhide HFU _ ((Below.refl w.heap.size w).alloc (Nat.le_refl _) _)) ?_; rintro e x1 ⟨rfl, rfl⟩; go_wp2_with fail
  obtain ⟨wB, hwB⟩ : ∃ wB, wB = w.alloc (.cells #[.bool true, .bool true, .bool b] 112) := ⟨_, rfl⟩; have HBB : Hid (Below w.heap.size w wB) := by rw [hwB]; exact (Below.refl _ _).alloc (Nat.le_refl _) _
  have HPB : Hid (PlB w.heap.size true true b wB) := by rw [hwB]; exact heap_new _ _
  have HC := hide (unhide HWR wB HBB.out); rw [← hwB]; refine cm HC.out ?_; rintro e x2 ⟨rfl, hq2⟩; have hpb2 : PlB w.heap.size true true b x2 := (hq2.block w.heap.size (lt_of_heap HPB.out)).trans HPB.out
  have HPB2 := hide hpb2; have HB2 := hide (HBB.out.trans (hq2.mono HBB.out.size)); clear HC hq2 hwB HWR hpb2
  cases er with
  | some e =>
   unfold erV; go_wp2_with fail; go_ret; exact ⟨rfl, HB2.out⟩
  | none =>
   unfold erV; have HC2 := hide (unhide HFU x2 HB2.out); have d2 := HPB2.out.at.c2; have df := frozen_of HPB2.out 2; have dl := lt_of_heap HPB2.out; go_wp2_with fail; refine cm HC2.out ?_; rintro e x3 ⟨rfl, rfl⟩
   obtain ⟨x4, hx4⟩ : ∃ x4, x4 = x3.setCell ⟨w.heap.size, 2, none⟩ (.bool true) := ⟨_, rfl⟩; have hpb4 : PlB w.heap.size true true true x4 := by rw [hx4, PlB, heap_set HPB2.out]; rfl
   have hb4 : Below w.heap.size w x4 := by
    exact zcbn
   have hn4 : NTr x4 t p := unhide HNB x4 hb4; obtain ⟨hpl4, _, _, u4, c34, hr4⟩ := hn4.cells; obtain ⟨ua, uc, rfl⟩ := hr4.form; have HR4 := hide hr4; have HB4 := hide hb4; have HPB4 := hide hpb4
   have e34 : (x3.setCell ⟨w.heap.size, 2, none⟩ (.bool true)).cell? ⟨p, 3, none⟩ = some (.slice ua t.kids.length uc) := by rw [← hx4]; exact c34
   have hpl3 : p < x3.heap.size := by rw [hx4] at hpl4; simpa using hpl4
   clear HC2 hpb4 hb4 hn4 hr4 HPB2 c34; go_wp2_with fail; rw [← hx4]; clear hx4 d2 df dl e34 hpl3
   go_loopw [41] (fun j wr => ∃ k : Nat, k ≤ t.kids.length ∧ j = .int .i64 k ∧ chks (t.kids.take k) true true true = none ∧ Below x4.heap.size x4 wr) (fun j _ => t.kids.length - (intOf j).toNat)
   case atStart => exact ⟨0, Nat.zero_le _, rfl, by rw [List.take_zero, chks], Below.refl _ _⟩
   case round =>
    obtain ⟨k, hk, rfl, hns, hb⟩ := hrel; have HNS := hide hns; have HB := hide hb; clear hns hb
    by_cases hlt : k < t.kids.length
    ·
     obtain ⟨g, cap, q, hv, hg, hcc, hn⟩ := (HR4.out.later HB.out).cell k hlt; simp only [Value.slice.injEq] at hv; obtain ⟨rfl, _, rfl⟩ := hv; have hki : (k : Int) < (t.kids.length : Int) := by omega
     have hpw : PlB w.heap.size true true true wr := (HB.out.block w.heap.size (lt_of_heap HPB4.out)).trans HPB4.out; have h0 := hpw.at.c0; have h1 := hpw.at.c1; have h2 := hpw.at.c2; have hwl := lt_of_heap hpw
     have HC := hide (unhide HIH k hlt q wr hn); have HX1 := hide (fun e => chks_hit t.kids true true true k hlt e HNS.out); have HX2 := hide (chks_none t.kids true true true k hlt HNS.out)
     generalize chk t.kids[k] true true true = r at HC HX1 HX2
     exact zcar
    ·
     exact zcbj
 ) : G := h
theorem zbah {G : Prop} (h : G := by
  have htc : t.count = 1 + Tr.counts t.kids := by cases t with | mk kd tx nn ks => exact count_mk _ _ _ _
  have hkl : t.kids.length ≤ 20000 := by have := counts_len t.kids; omega
  obtain ⟨wA, hwA⟩ : ∃ wA, wA = w.alloc (.cells #[.bool s, .bool i, .bool b] 112) := ⟨_, rfl⟩; have hbA : Below w.heap.size w wA := by rw [hwA]; exact (Below.refl _ _).alloc (Nat.le_refl _) _
  have hpA : PlAt w.heap.size s i b wA := by rw [hwA]; exact PlAt.new _ _ _ _
  have hnA := h.later hbA; obtain ⟨hpl, c0, c1, u, c3, hr⟩ := h.cells; rw [hkd] at c0; have HBA := hide hbA; have HPL := hide hpA; have HNM := hide (fun W => wrongName_any s i b t.tx W); have HC1 := hide (keepC hbA c1)
  have hpl2 := cell_lt HC1.out
  generalize t.tx = tx at HNM HC1 c1
  generalize nmE s tx = er at HNM
  clear h hc htc hkl hnA hbA hpA hr hkd c3 c1; go_enter Tryz.func143, Tryz.ntmps143; go_wp2_with fail; rw [← hwA]; have hS0 : Below wA.heap.size wA wA.drew := (Below.refl _ _).drew
  refine wp_region_held (S := fun X => Below wA.heap.size wA X) (by kernel_rfl) ?_; change wpAnyH _ _ _ _ _ _ _ _ (World.drew _); refine wh 0 (nPtr p) hS0 ?_; refine wh 1 (nPtr p) hS0 ?_
  refine wh 2 (.pointer (some ⟨p, 1, none⟩)) hS0 ?_; refine wh 3 (.string tx) hS0 ?_ (hy := Or.inl ⟨by kernel_rfl, fun X hX => by have hh := keepC hX HC1.out; go_simp⟩)
  refine wh 4 (plV s i b) hS0 ?_ (hy := Or.inl ⟨by kernel_rfl, fun X hX => by
    have hh := PlAt.later HPL.out hX; have h0 := hh.c0; have h1 := hh.c1; have h2 := hh.c2; clear hh; go_simp⟩)
  refine wq1 5 fun K hK => ?_; go_simp; refine cm (HNM.out _) ?_; rintro e w2 ⟨rfl, hb2⟩
  try rw [← hwA] at hb2
  have hS2 : Below wA.heap.size wA w2 := hS0.trans (hb2.mono (Nat.le_refl _)); refine hK.out _ _ hS2 (fun _ => ?_); clear hK K; refine wh 6 (erV er) hS2 ?_; refine wpAnyH_done (by kernel_rfl) ?_ _; go_simp
  have HS2 := hide hS2; clear hb2 hS2 hS0
  cases er <;>
  ·
   unfold erV; go_wp2_with fail; go_ret; exact ⟨rfl, HBA.out.trans (HS2.out.mono HBA.out.size)⟩
 ) : G := h
theorem zbai {G : Prop} (h : G := by
  refine hK _ _ ?_; clear hK K; refine wr2 4 9 (fun K hK => ?_) fun K hK => ?_
  ·
   go_simp; refine hK _ _ ?_; clear hK K; refine wr1 9 fun K hK => ?_; exact zcax
  ·
   go_simp; refine hK _ _ ?_; clear hK K; refine wr1 4 fun K hK => ?_; exact zcax
 ) : G := h
theorem zbaj {G : Prop} (h : G := by
  exact zcax
 ) : G := h
theorem zbak {G : Prop} (h : G := by
  rw [hr] at HS; simp only [bind_out] at HS; exact absurd HS.out.symm HO.out
 ) : G := h
theorem zbal {G : Prop} (h : G := by
  go_simp; refine hK _ _ ?_; clear hK K; have hown := HOc.out.row; have HOWN := hide hown; have hsz := HAc.out.size; clear hown; refine wr1 9 fun K hK => ?_
  refine step_append_lies _ rfl _ _ 36 rfl w.heap.size 22 i0 (.pointer none) 1 8 Tryz.underlying36 hi0 hz0 hz1 hz2 rfl (by decide) _ _ _ rfl (HOWN.out.alloc _) ⟨wc.heap.size, 0, none⟩ 1 1 [nPtr pc] rfl rfl (one_cells wc pc _ rfl) (one_one pc) (by decide) (by simp [maxLen]) (by simp) (by simp; omega) (wc.heap.size + 1) (by simp) ?_
  intro g cap w3 hown3 hgr3 hg3 _; refine hK _ _ ?_; clear hK K; have HEV := hide (Open.push2 HOc.out HNc.out rfl hown3 hgr3 hg3)
  have HBW : ∀ v, Hid (Below w.heap.size wc (w3.setCell ⟨w.heap.size, 3, none⟩ v)) := fun v => HOc.out.grows ((Below.refl _ wc).alloc hsz _) (by simp; omega) hgr3
  have hp3 : w3.cell? ⟨w.heap.size, 3, none⟩ = wc.cell? ⟨w.heap.size, 3, none⟩ ∧ w3.frozen? ⟨w.heap.size, 3, none⟩ = wc.frozen? ⟨w.heap.size, 3, none⟩ := by
   exact zcbi
  obtain ⟨hp3c, hp3f⟩ := hp3; rw [gc3] at hp3c; rw [gcf 3] at hp3f; clear hown3 hgr3 hg3; refine wt 10 (nPtr w.heap.size) ?_; refine wt 11 (.pointer (some ⟨w.heap.size, 3, none⟩)) ?_; refine wr1 12 fun K hK => ?_; go_simp
  refine hK _ _ ?_; clear hK K hp3c hp3f gc3 gcf gcl HOWN hcf hc3 hcl; refine wpAny_done (by kernel_rfl) ?_ _; go_simp; go_wp2_with fail; go_ret
  exact ⟨⟨_, rfl, HEV.out.nv⟩, HPc.out.ap (unhide (HBW _)) HLO.out, HAc.out.trans (Ap.of (unhide (HBW _)))⟩
 ) : G := h
theorem zbam {G : Prop} (h : G := by
  rintro e2 w2 ⟨rfl, rfl⟩; go_wp2_with fail
  go_round
  case rel => exact ⟨q + 1, by omega, by omega, by go_num, HST1.out⟩
  case measure => simp [intOf]; omega
 ) : G := h
theorem zban {G : Prop} (h : G := by
  refine hK _ _ ?_; clear hK K
  by_cases hus : us = []
  ·
   obtain rfl := HLV.out.2.1 hus; subst hus; obtain ⟨hucap, ga, rfl⟩ := HOc.out.cap (by rw [HKL.out]; decide)
   have HP1 := hide (push0 HOc.out HRc.out HAc.out HLO.out); refine wr1 11 fun K hK => ?_; go_simp; refine hK _ _ ?_; clear hK K hucap; refine wt 12 (nPtr pq) ?_; refine wt 13 (.pointer (some ⟨pq, 3, none⟩)) ?_
   refine wr1 14 fun K hK => ?_; go_simp; refine hK _ _ ?_; clear hK K; refine wpAny_done (by kernel_rfl) ?_ _; go_simp; obtain ⟨m1, m2, m3⟩ := unhide HP1; obtain ⟨pm, hpm, hnm⟩ := m1.nv
   have hpe : pm = pq := by simpa [nPtr] using hpm.symm
   subst hpe; have ht0 := unhide HT0; have HM1 := hide hnm; have HM2 := hide m2; have HM3 := hide m3; clear m1 m2 m3 hpm hnm; go_wp2_with fail
   go_roundw
   case rel => exact ⟨k, .mk 35 noText 0 [t], j2, pm, rfl, HS.out, HM2.out, HM3.out, by have h9 := unhide HM1; rw [show Tr.mk t0.kd t0.tx t0.n (t0.kids ++ []) = Tr.mk 35 noText 0 [t] by rw [ht0]; rfl] at h9; exact h9⟩
   case measure => rw [nxt_eq HM2.out, nxt_eq HRM.out]; omega
  ·
   obtain ⟨g2, cap2, qs, rfl, hql, hqn, hqc⟩ := HLV.out.many hus; have hu1 := HLV.out.2.2; have hpos : 0 < us.length := List.length_pos_iff.2 hus
   have HX := hide (Open.apart HOP.out HAn.out.size (show NAts (From wn.heap.size) wc us qs from hqn)); have hlen := NAts.length _ _ HOc.out.kids; have hkl := unhide HKL; have hsz := HAc.out.size; have hown := HOc.out.row
   rw [hlen] at hown; have HOWN := hide hown; have HQL := hide hql; have HLEN := hide hlen; clear hown hus hqn hlen; refine wr1 11 fun K hK => ?_
   refine step_append_lies _ rfl _ _ 36 rfl w.heap.size 22 i0 (.pointer none) 1 8 Tryz.underlying36 hi0 hz0 hz1 hz2 rfl (by decide) _ _ _ rfl HOWN.out ⟨g2, 0, none⟩ us.length cap2 (qs.map nPtr) rfl (by simp [hql]) hqc (map_one qs) hpos (by unfold maxLen; omega) (by omega) hsz wc.heap.size rfl ?_
   intro g cap w3 hown3 hgr3 hg3 _; refine hK _ _ ?_; clear hK K; have HP1 := hide (pushN (m := t0.kids.length + us.length) HOc.out HX.out HRc.out HAc.out HLO.out hown3 (by rw [HLEN.out, HQL.out]) hgr3 hg3)
   have hp3 : w3.cell? ⟨pq, 3, none⟩ = wc.cell? ⟨pq, 3, none⟩ ∧ w3.frozen? ⟨pq, 3, none⟩ = wc.frozen? ⟨pq, 3, none⟩ := by
    have hbb : w3.heap[pq]? = wc.heap[pq]? := hgr3.block pq gcl (fun e => HOc.out.own e.symm); exact zdah
   obtain ⟨hp3c, hp3f⟩ := hp3; rw [gc3] at hp3c; rw [gcf 3] at hp3f; clear hown3 hgr3 hg3 gc3 gcf hqc hkl; refine wt 12 (nPtr pq) ?_; refine wt 13 (.pointer (some ⟨pq, 3, none⟩)) ?_; refine wr1 14 fun K hK => ?_; go_simp
   refine hK _ _ ?_; clear hK K; refine wpAny_done (by kernel_rfl) ?_ _; go_simp; obtain ⟨m1, m2, m3⟩ := unhide HP1; obtain ⟨pm, hpm, hnm⟩ := m1.nv; have hpe : pm = pq := by simpa [nPtr] using hpm.symm
   subst hpe; have ht0 := unhide HT0; have HM1 := hide hnm; have HM2 := hide m2; have HM3 := hide m3; clear m1 m2 m3 hpm hnm; go_wp2_with fail
   go_roundw
   case rel => exact ⟨k, .mk 35 noText 0 (t :: us), j2, pm, rfl, HS.out, HM2.out, HM3.out, by have h9 := unhide HM1; rw [show Tr.mk t0.kd t0.tx t0.n (t0.kids ++ us) = Tr.mk 35 noText 0 (t :: us) by rw [ht0]; rfl] at h9; exact h9⟩
   case measure => rw [nxt_eq HM2.out, nxt_eq HRM.out]; omega
 ) : G := h
theorem zbao {G : Prop} (h : G := by
  go_simp; refine hK _ _ ?_; clear hK K; have hown := HOc.out.row; have HOWN := hide hown; have hsz := HAc.out.size; clear hown; refine wr1 9 fun K hK => ?_
  refine step_append_lies _ rfl _ _ 36 rfl w.heap.size 22 i0 (.pointer none) 1 8 Tryz.underlying36 hi0 hz0 hz1 hz2 rfl (by decide) _ _ _ rfl (HOWN.out.alloc _) ⟨wc.heap.size, 0, none⟩ 1 1 [nPtr pc] rfl rfl (one_cells wc pc _ rfl) (one_one pc) (by decide) (by simp [maxLen]) (by simp) (by simp; omega) (wc.heap.size + 1) (by simp) ?_
  intro g cap w3 hown3 hgr3 hg3 _; refine hK _ _ ?_; clear hK K
  have HBW : ∀ v, Hid (Below w.heap.size wc (w3.setCell ⟨w.heap.size, 3, none⟩ v)) := fun v => HOc.out.grows ((Below.refl _ wc).alloc hsz _) (by simp; omega) hgr3
  have hp3 : w3.cell? ⟨w.heap.size, 3, none⟩ = wc.cell? ⟨w.heap.size, 3, none⟩ ∧ w3.frozen? ⟨w.heap.size, 3, none⟩ = wc.frozen? ⟨w.heap.size, 3, none⟩ := by
   exact zcbi
  obtain ⟨hp3c, hp3f⟩ := hp3; rw [gc3] at hp3c; rw [gcf 3] at hp3f; clear hown3 hgr3 hg3; refine wt 10 (nPtr w.heap.size) ?_; refine wt 11 (.pointer (some ⟨w.heap.size, 3, none⟩)) ?_; refine wr1 12 fun K hK => ?_; go_simp
  refine hK _ _ ?_; clear hK K hp3c hp3f gc3 gcf gcl HOWN hcf hc3 hcl; refine wpAny_done (by kernel_rfl) ?_ _; go_simp; go_wp2_with fail; go_ret
  exact ⟨⟨_, rfl, _, rfl⟩, ⟨jc, HPc.out.ap (unhide (HBW _)) HLO.out⟩, he, HAc.out.trans (Ap.of (unhide (HBW _)))⟩
 ) : G := h
theorem zbap {G : Prop} (h : G := by
  have hlt2 := hrd.lt; clear hrd ha hn4 HC; obtain ⟨ps, hown, hk4⟩ := unhide HK4; have hlen := NAts.length _ _ hk4; have hOB := own_lt hown; rw [hlen] at hown; have HOWN := hide hown; have HLEN := hide hlen
  have HKK := hide hk4; have hsz := HA4.out.size; have hle := unhide HLE; have HOB := hide hOB; clear hown hk4 HK4 hOB hlen
  go_wp2_with (at_builtin; refine wpList_append_lies _ rfl _ _ 36 rfl w.heap.size 22 i0 (.pointer none) 1 8 Tryz.underlying36 hi0 hz0 hz1 hz2 rfl (by decide) _ _ _ rfl (HOWN.out.alloc _) ⟨w4.heap.size, 0, none⟩ 1 1 [nPtr p4] rfl rfl (one_cells w4 p4 _ rfl) (one_one p4) (by decide) (by unfold maxLen; omega) (by omega) (by simp; omega) (w4.heap.size + 1) (by simp) ?_)
  intro g cap w5 hown' hgrow hg _
  have HK5 : Hid (KV w.heap.size w5 (acc ++ [t]) (.slice (some ⟨g, 0, none⟩) (acc.length + 1) cap)) := kv_push HKK.out (NAts.cons HN4.out NAts.nil) (by rw [List.map_append]; exact hown') (by simp [HLEN.out]) hgrow hg
  have HA5 := hide ((HA4.out.alloc hsz (.cells #[nPtr p4] 22)).grown hgrow (by simp; omega) (fun k hk => (unhide HOB k hk).2))
  have HR5 := hide (HR4.out.ap (((Below.refl w.heap.size w4).alloc hsz (.cells #[nPtr p4] 22)).grown hgrow (by simp; omega) (fun k hk => (unhide HOB k hk).2)) HLO.out)
  clear hown' hgrow hg HKK HOWN
  by_cases hx : fx c.l j2 = shut
  ·
   have HC := hide (take_yes c shut w5 j2 d HR5.out hx HNS.out); rw [if_pos hx] at HQ2; clear hx; go_wp2_with fail; refine cm HC.out ?_; rintro e w6 ⟨rfl, hr6, ha6⟩; have HA6 := hide (HA5.out.next ha6)
   have HR6 := hide hr6; have HK6 := hide (KV.later HK5.out ha6 HLT.out); clear hr6 ha6; go_wp2_with fail; go_ret; exact ppOk HQ2.out.symm ⟨HK6.out, fun hh => absurd hh (by simp), by simp; omega⟩ HR6.out HA6.out
  ·
   have HC := hide (take_not c shut w5 j2 d HR5.out hx); rw [if_neg hx] at HQ2; clear hx; go_wp2_with fail; refine cm HC.out ?_; rintro e w6 ⟨rfl, hb6⟩; have HA6 := hide (HA5.out.next (Ap.of hb6))
   have HR6 := hide (HR5.out.later hb6); have HK6 := hide (KV.later HK5.out (Ap.of hb6) HLT.out); clear hb6 HC
   cases hr : mustP c.l tComma j2 with
   | out =>
    exact zcch
   | bad er p =>
    have HC := hide (must_any c tComma w6 j2 d HR6.out (by decide)); rw [hr] at HC HQ2; simp only [bind_bad] at HQ2; clear hr; go_wp2_with fail; refine cm HC.out ?_; intro e w' hp; obtain ⟨rfl, ha⟩ := hp
    exact ⟨rfl, ppBad HQ2.out.symm (HA6.out.next ha)⟩
   | ok x7 j7 =>
    have HC := hide (must_any c tComma w6 j2 d HR6.out (by decide)); have h7 : j2 < j7 := by
     unfold mustP at hr
     split at hr
     ·
      cases hr; omega
     ·
      cases hr
    rw [hr] at HC HQ2; simp only [bind_ok] at HQ2; clear hr; go_wp2_with fail; refine cm HC.out ?_; intro e w7 hp; obtain ⟨⟨v7, rfl, rfl⟩, hrd, ha⟩ := hp; have HA7 := hide (HA6.out.next ha); have HR7 := hide hrd
    have HK7 := hide (KV.later HK6.out ha HLT.out); have hlt7 := hrd.lt; clear hrd ha HC; go_wp2_with fail
    go_roundw
    case rel => exact ⟨k, acc ++ [t], j7, HQ2.out, HR7.out, HA7.out, HK7.out, by simp; omega⟩
    case measure => rw [nxt_eq HR7.out, nxt_eq HRM.out]; omega
 ) : G := h
theorem zbaq {G : Prop} (h : G := by
  go_wp2_with fail; refine cm HC.out ?_; rintro e w2 ⟨⟨u2, rfl, hr2⟩, hb2⟩; obtain ⟨a2, c2, rfl⟩ := hr2.form; have HB2 := hide (HB1.out.trans (hb2.mono HB1.out.size)); have HN2 := hide (HN1.out.later hb2)
  have HV2 := hide (SRow.later HV1.out hb2); have HC2 := hide (texts_any (fnsT t) _ w2 hr2 (by omega)); clear HC hr2 hb2; go_wp2_with fail; refine cm HC2.out ?_; rintro e w3 ⟨⟨u3, rfl, hr3⟩, hb3⟩; rw [← HFF.out] at hr3
  obtain ⟨a3, c3, rfl⟩ := srow_form hr3; have HB3 := hide (HB2.out.trans (hb3.mono HB2.out.size)); have HN3 := hide (HN2.out.later hb3); have HV3 := hide (SRow.later HV2.out hb3); have HR3 := hide hr3; clear HC2 hr3 hb3
  go_wp2_with (at_builtin; refine wpList_app_row rfl _ _ 54 rfl w.heap.size _ 9 i0 (.string ByteArray.empty) 16 Tryz.underlying54 hi0 hz0 hz1 hz2 rfl _ _ _ rfl HV3.out _ _ _ rfl HR3.out (srow_ones F) (by unfold maxLen; omega) (by omega) HB3.out.size ?_)
  intro v4 w4 hown4 hgr4; have hsr4 : SRow w.heap.size w4 v4 VF := by
   show World.ownsRow _ _ _ _ _ _ _
   rw [HVF.out, List.length_append, List.map_append]; exact hown4
  have hob := fun k hk => (own_lt HV3.out k hk).2; have HB4 := hide (HB3.out.grown hgr4 HB3.out.size hob); have HN4 : Hid (NTr w4 t p) := NTr.later HN0.out HB4.out; obtain ⟨a4, c4, rfl⟩ := srow_form hsr4
  have HV4 := hide hsr4; clear hown4 hgr4 hsr4 hob; have HC := hide (lets_any t p w4 HN4.out (by omega)); go_wp2_with fail; refine cm HC.out ?_; rintro e w5 ⟨⟨u5, rfl, hr5⟩, hb5⟩; obtain ⟨a5, c5, rfl⟩ := hr5.form
  have HB5 := hide (HB4.out.trans (hb5.mono HB4.out.size)); have HV5 := hide (SRow.later HV4.out hb5); have HC2 := hide (texts_any (letsT t) _ w5 hr5 (by omega)); clear HC hr5 hb5; go_wp2_with fail; refine cm HC2.out ?_
  rintro e w6 ⟨⟨u6, rfl, hr6⟩, hb6⟩; rw [← HGG.out] at hr6; obtain ⟨a6, c6, rfl⟩ := srow_form hr6; have HB6 := hide (HB5.out.trans (hb6.mono HB5.out.size)); have HV6 := hide (SRow.later HV5.out hb6); have HR6 := hide hr6
  clear HC2 hr6 hb6
  go_wp2_with (at_builtin; refine wpList_app_row rfl _ _ 54 rfl w.heap.size _ 9 i0 (.string ByteArray.empty) 16 Tryz.underlying54 hi0 hz0 hz1 hz2 rfl _ _ _ rfl HV6.out _ _ _ rfl HR6.out (srow_ones G) (by unfold maxLen; omega) (by omega) HB6.out.size ?_)
  intro v7 w7 hown7 hgr7; have hsr7 : SRow w.heap.size w7 v7 VFG := by
   show World.ownsRow _ _ _ _ _ _ _
   rw [HVFG.out, List.length_append, List.map_append]; exact hown7
  have hob := fun k hk => (own_lt HV6.out k hk).2; have HB7 := hide (HB6.out.grown hgr7 HB6.out.size hob); obtain ⟨a7, c7, rfl⟩ := srow_form hsr7; have HC := hide (once_any VFG _ w7 hsr7 (by omega))
  clear hown7 hgr7 hsr7 hob; go_wp2_with fail; refine cm HC.out ?_; rintro e w8 ⟨⟨u8, rfl, hr8⟩, hb8⟩; obtain ⟨a8, c8, rfl⟩ := srow_form hr8; have HR8 := hide (srow_mono hr8 HB7.out.size)
  have HB8 := hide (HB7.out.trans (hb8.mono HB7.out.size)); clear HC hr8 hb8; go_wp2_with fail; go_ret; exact ⟨⟨_, rfl, HR8.out⟩, HB8.out⟩
 ) : G := h
theorem zbar {G : Prop} (h : G := by
  rw [hf] at HF HVW; have HC := hide (unhide HF W1 HW1.out); go_wp2_with fail; refine cm HC.out ?_; rintro e w3 ⟨rfl, rfl⟩; clear HC; have HC2 := hide (unhide HI w3 (HN.out.later HW1.out)); go_wp2_with fail
  refine cm HC2.out ?_; rintro e w4 ⟨⟨u4, rfl, hr4⟩, hb4⟩; obtain ⟨R, hR⟩ : ∃ R, R = varsT x := ⟨_, rfl⟩; rw [← hR] at hr4 hvk; obtain ⟨a4, c4, rfl⟩ := srow_form hr4; have HR4 := hide hr4
  have HO4 := hide (SRow.later HO1.out hb4); have HB4 := hide (HB1.out.trans (hb4.mono HB1.out.size)); have HFO : Hid ((vw x).foldl addB L = R.foldl addB L1) := by
   show _ = _
   rw [HVW.out, HOV.out, hR, varsT, fold_once, List.foldl_append, HLL.out]; rfl
  clear HC2 hr4 hb4 hR hcc q0 q1; go_wp2_with fail
  go_loopw [3, 36] (fun o j wr2 => ∃ i : Nat, i ≤ R.length ∧ j = .int .i64 i ∧ SRow w.heap.size wr2 o ((R.take i).foldl addB L1) ∧ Below w4.heap.size w4 wr2) (fun _ j _ => R.length - (intOf j).toNat)
  case atStart => exact ⟨0, Nat.zero_le _, rfl, HO4.out, Below.refl _ _⟩
  case round =>
   obtain ⟨i, hi, rfl, hown, hbel⟩ := hrel; have HOWN2 := hide hown; have HB5 := hide hbel; obtain ⟨ob, od, rfl⟩ := srow_form hown; clear hown hbel; have HBW := hide (HB4.out.trans (HB5.out.mono HB4.out.size))
   by_cases hli : i < R.length
   ·
    obtain ⟨g4, cp4, hv, hg4, _, hc4⟩ := srow_cell (SRow.later HR4.out HB5.out) i hli; simp only [Value.slice.injEq] at hv; obtain ⟨rfl, _, rfl⟩ := hv; have hii : (i : Int) < (R.length : Int) := by omega
    have hfl : ((R.take i).foldl addB L1).length ≤ 60000 := by
     have h1 := fold_len (R.take i) L1; rw [List.length_take] at h1; omega
    have HTK : Hid ((R.take (i + 1)).foldl addB L1 = addB ((R.take i).foldl addB L1) R[i]) := by
     show _ = _
     rw [List.take_succ_eq_append_getElem hli, List.foldl_append]; rfl
    have HC := hide (radd_any ((R.take i).foldl addB L1) R[i] _ _ HOWN2.out (by omega) HBW.out.size)
    generalize R[i] = y at hc4 HC HTK
    generalize (R.take i).foldl addB L1 = M at HC HTK HOWN2 hfl
    go_wp2_with fail; refine cm HC.out ?_; rintro e w6 ⟨⟨u6, rfl, hr6⟩, hb6⟩; obtain ⟨a6, c6, rfl⟩ := srow_form hr6; have HR6 := hide hr6; have HB6 := hide (HB5.out.trans (hb6.mono HB5.out.size)); clear HC hr6 hb6
    go_wp2_with fail
    go_roundw
    case rel => exact ⟨i + 1, by omega, by go_num, by rw [HTK.out]; exact HR6.out, HB6.out⟩
    case measure => simp [intOf]; omega
   ·
    have hii : i = R.length := by omega
    subst hii; go_wp2_with fail
    go_roundw
    case rel =>
     refine ⟨k + 1, by omega, by go_num, ?_, HBW.out⟩; rw [HST.out, HFO.out]; have h := unhide HOWN2; rw [List.take_length] at h; rw [List.take_length]; exact h
    case measure => simp [intOf]; omega
 ) : G := h
theorem zbas {G : Prop} (h : G := by
  go_wp2_with fail; refine (fail_any _ _ _).mono ?_; rintro e4 w4 ⟨b, rfl, hb, hlb, hbel2⟩; have hbelA := HB.out.trans (hbel2.mono hsz); have hbelB : Below (w.alloc O35).heap.size (w.alloc O35) w4 := by simpa using hbelA
  obtain ⟨hc, hf⟩ := bcell hbelB; have HBB := hide hb; have HBEL2 := hide hbelB; have hlb2 : (w.alloc O35).heap.size ≤ b := by simp; omega
  clear hb hbelA hbelB hbel2 hlb; go_wp2_with fail
  exact bodyPost_ret (v := .tuple #[noTok, .int .i64 0, .iface 129 (.pointer (some ⟨b, 0, none⟩))]) (by simp [results, Tryz.results154, go_sem, hc]) rfl ⟨b, rfl, bad_end HBEL2.out hlb2 HBB.out _ _ _ _⟩
 ) : G := h
theorem zbat {G : Prop} (h : G := by
  obtain ⟨g2, cap2, q2, hv, hg2, hgb, hck, hn⟩ := (HR3.out.later hbk).cell k hlt; simp only [Value.slice.injEq] at hv; obtain ⟨hv, hvy, hvx⟩ := hv; subst hv; clear hvy hvx
  have hki : (k : Int) < ((letsT (kidT t 1)).length : Int) := by omega
  obtain ⟨hql0, _, q10, _⟩ := hn.cells; have q1c := keepC HBW.out q10; have hql2 := cell_lt q1c
  have HTK : Hid (((letsT (kidT t 1)).take (k + 1)).any (fun x => namedB PS x.tx) = (((letsT (kidT t 1)).take k).any (fun x => namedB PS x.tx) || namedB PS ((letsT (kidT t 1))[k]).tx)) := by show _ = _; rw [List.take_succ_eq_append_getElem hlt, List.any_append]; simp
  have HIN : Hid (namedB PS ((letsT (kidT t 1))[k]).tx = true → R = some 9) := fun h => unhide HLX (List.any_eq_true.2 ⟨_, List.getElem_mem hlt, h⟩)
  generalize ((letsT (kidT t 1))[k]).tx = x at q1c HTK HIN q10
  clear hn hbk q10; go_wp2_with fail; have hS0 : Below wr.heap.size wr wr.drew := (Below.refl _ _).drew; refine wp_region_held (S := fun X => Below wr.heap.size wr X) (by kernel_rfl) ?_
  change wpAnyH _ _ _ _ _ _ _ _ (World.drew _); refine wh 0 (nPtr p) hS0 ?_; refine wh 2 (nPtr q2) hS0 ?_; refine wh 3 (nPtr q2) hS0 ?_; refine wh 4 (.pointer (some ⟨q2, 1, none⟩)) hS0 ?_
  refine wh 5 (.string x) hS0 ?_ (hy := Or.inl ⟨by kernel_rfl, fun X hX => by have hh := keepC hX q1c; go_simp⟩)
  refine wq1 1 fun K hK => ?_; go_simp; refine cm (HPA.out _ (HBW.out.trans (hS0.mono HBW.out.size))) ?_; rintro e w4 ⟨⟨u4, rfl, hr4⟩, hb4⟩; obtain ⟨a4, c4, rfl⟩ := srow_form hr4
  have hS4 : Below wr.heap.size wr w4 := hS0.trans (hb4.mono (Nat.le_refl _)); refine hK.out _ _ hS4 (fun _ => ?_); clear hK K; have HH := hide (rhas_any _ x _ w4 hr4 hOl); rw [has_once] at HH; clear hr4
  refine wq1 6 fun K hK => ?_; go_simp; refine cm HH.out ?_; rintro e w6 ⟨rfl, hw6⟩; subst hw6; refine hK.out _ _ hS4 (fun _ => ?_); clear hK K HH; refine wpAnyH_done (by kernel_rfl) ?_ _; go_simp
  have HB6 := hide (HBW.out.trans (hS4.mono HBW.out.size)); have HB7 := hide (HBJ.out.trans (hS4.mono HBJ.out.size)); clear hS0 hS4 hb4
  cases hh : namedB PS x with
  | true =>
   have hRe := unhide HIN hh; subst hRe; clear hh; go_wp2_with fail; go_ret; exact ⟨rfl, HB6.out⟩
  | false =>
   have HN2 : Hid (((letsT (kidT t 1)).take (k + 1)).any (fun x => namedB PS x.tx) = false) := by rw [HTK.out, HNO.out, hh]; rfl
   clear hh HTK HIN; go_wp2_with fail
   go_roundw
   case rel => exact ⟨k + 1, by omega, by go_num, HN2.out, HB7.out⟩
   case measure => simp [intOf]; omega
 ) : G := h
theorem zbau {G : Prop} (h : G := by
  clear h hc htc hkl hnA hbA hpA hr hkd HPL; rw [hwA] at h0 h1 h2 HC HBA; clear hwA; go_enter Tryz.func143, Tryz.ntmps143; go_wp2_with fail; refine cm HC.out ?_; rintro e w2 ⟨rfl, hb2⟩
  have HB2 := hide (HBA.out.trans (hb2.mono HBA.out.size)); clear HC hb2
  cases er <;>
  ·
   unfold erV; go_wp2_with fail; go_ret; exact ⟨rfl, HB2.out⟩
 ) : G := h
theorem zbav {G : Prop} (h : G := by
  rw [hr] at HC HS; simp only [bind_bad] at HS; exact zcci
 ) : G := h
theorem zbaw {G : Prop} (h : G := by
  exact zcar
 ) : G := h
theorem zbax {G : Prop} (h : G := by
  have nb := (ha2.block _ (lt_of_heap HNB.out) (by have := unhide HLT; omega)).trans HNB.out
  obtain ⟨c0, c1, c2, c3, cf⟩ := node_cells nb; have cf3 := cf 3; have hnl := lt_of_heap nb; have hA := HA0.out.next ha2
  have HB : Hid (Below w.heap.size wv ((wv.setCell ⟨w.heap.size, 3, none⟩ (.slice (some ⟨wv.heap.size, 0, none⟩) 2 2)).alloc (.cells #[nPtr q, nPtr q2] 22))) := ((Below.refl w.heap.size wv).setCell (p := ⟨w.heap.size, 3, none⟩) (Nat.le_refl _) _).alloc (by simp; omega) _
  have HA := hide (hA.trans (Ap.of HB.out)); have HP := hide (hp2.ap HB.out HLO.out); clear hp2 ha2 HC2 nb hA; go_wp2_with fail; go_ret; exact ⟨⟨_, rfl, _, rfl⟩, ⟨j2, HP.out⟩, he, HA.out⟩
 ) : G := h
theorem zbay {G : Prop} (h : G := by
  exact zcbm
 ) : G := h
theorem zbaz {G : Prop} (h : G := by
  refine hK _ _ ?_; clear hK K; refine wr2 4 9 (fun K hK => ?_) fun K hK => ?_
  ·
   go_simp; refine hK _ _ ?_; clear hK K; refine wr1 9 fun K hK => ?_; go_simp; refine hK _ _ ?_; clear hK K; refine wt 10 (.agg #[.int .i64 13, .string s, .int .i64 0, .slice (some ⟨wc.heap.size, 0, none⟩) 1 1]) ?_
   refine wr1 11 fun K hK => ?_; exact zdai
  ·
   go_simp; refine hK _ _ ?_; clear hK K; refine wt 10 (.agg #[.int .i64 13, .string s, .int .i64 0, .slice (some ⟨wc.heap.size, 0, none⟩) 1 1]) ?_; refine wr2 4 11 (fun K hK => ?_) fun K hK => ?_
   ·
    go_simp; refine hK _ _ ?_; clear hK K; refine wr1 11 fun K hK => ?_; exact zdai
   ·
    go_simp; refine hK _ _ ?_; clear hK K; refine wr2 4 12 (fun K hK => ?_) fun K hK => ?_
    ·
     exact zdai
    ·
     go_simp; refine hK _ _ ?_; clear hK K; refine wr1 4 fun K hK => ?_; exact zcaj
 ) : G := h
theorem zbba {G : Prop} (h : G := by
  obtain ⟨g2, cap2, q2, hv, hg2, hck, hn⟩ := HROW.out.cell (k + 1) (by omega); simp only [Value.slice.injEq] at hv; obtain ⟨hv, hvy, hvx⟩ := hv; cases hv; clear hvy hvx; rw [Nat.add_comm k 1] at hck
  obtain ⟨hql2, f0, _⟩ := hn.cells; have hki : (k : Int) < ((t.kids.length - 1 : Nat) : Int) := by omega
  have hld : k < (t.kids.drop 1).length := by simp; omega
  have HEL : Hid ((t.kids.drop 1)[k]'hld = t.kids[k + 1]'(by omega)) := by show _ = _; simp [Nat.add_comm]
  have HTK : Hid (((t.kids.drop 1).take (k + 1)).any declK = (((t.kids.drop 1).take k).any declK || ((t.kids[k + 1]'(by omega)).kd == 3 || (t.kids[k + 1]'(by omega)).kd == 4 || (t.kids[k + 1]'(by omega)).kd == 5))) := by
   show _ = _
   rw [List.take_succ_eq_append_getElem hld, List.any_append]; simp [declK, HEL.out]
  have HIN : Hid (((t.kids[k + 1]'(by omega)).kd == 3 || (t.kids[k + 1]'(by omega)).kd == 4 || (t.kids[k + 1]'(by omega)).kd == 5) = true → R = some 1) := fun h => by
   have h1 : (t.kids.drop 1).any declK = true := List.any_eq_true.2 ⟨_, List.getElem_mem hld, by rw [HEL.out]; exact h⟩
   rw [HRR.out, h1]; rfl
  rw [HNO.out, Bool.false_or] at HTK
  generalize (t.kids[k + 1]'(by omega)).kd = kd at f0 HTK HIN
  clear hn HEL hcq c3
  by_cases h3 : kd = 3
  ·
   subst h3; exact zccd
  by_cases h4 : kd = 4
  ·
   subst h4; exact zccd
  by_cases h5 : kd = 5
  ·
   subst h5; exact zccd
  have b3 := beq_false_of_ne h3; have b4 := beq_false_of_ne h4; have b5 := beq_false_of_ne h5; have HN2 : Hid (((t.kids.drop 1).take (k + 1)).any declK = false) := by
   rw [HTK.out, b3, b4, b5]; rfl
  clear h3 h4 h5 HTK HIN; go_wp2_with fail
  go_roundw
  case rel => exact ⟨k + 1, by omega, by go_num, HN2.out, trivial⟩
  case measure => simp [intOf]; omega
 ) : G := h
theorem zbbb {G : Prop} (h : G := by
  obtain ⟨va, vc, rfl⟩ := h.form; have HR := hide h; have HF := hide hF; clear h hF; go_enter Tryz.func269, Tryz.ntmps269; go_wp2_with fail
  go_loopw [8] (fun i wr => ∃ k : Nat, k ≤ ts.length ∧ i = .int .i64 k ∧ (ts.take k).any f = false ∧ Below w.heap.size w wr) (fun i _ => ts.length - (intOf i).toNat)
  case atStart => exact ⟨0, Nat.zero_le _, rfl, rfl, Below.refl _ _⟩
  case round =>
   obtain ⟨k, hk, rfl, hns, hb⟩ := hrel; have HNS := hide hns; have HB := hide hb; clear hns hb
   by_cases hlt : k < ts.length
   ·
    obtain ⟨g, cap, q, hv, hg, hc, hn⟩ := (HR.out.later HB.out).cell k hlt; simp only [Value.slice.injEq] at hv; obtain ⟨rfl, _, rfl⟩ := hv; have hki : (k : Int) < (ts.length : Int) := by omega
    have HC := hide (unhide HF ts[k] (List.getElem_mem _) q wr HB.out hn); have HTK := hide (List.take_succ_eq_append_getElem hlt); clear hn
    cases hh : f ts[k] with
    | true =>
     rw [hh] at HC; have HH := hide hh; clear hh; go_wp2_with fail; refine cm HC.out ?_; rintro e w2 ⟨rfl, hb2⟩; have HB2 := hide (HB.out.trans (hb2.mono HB.out.size)); clear HC hb2; go_wp2_with fail; go_ret
     refine ⟨⟨k, rfl, ?_⟩, HB2.out⟩; rw [decide_eq_true (by omega), eq_comm, List.any_eq_true]; exact ⟨ts[k], List.getElem_mem _, HH.out⟩
    | false =>
     rw [hh] at HC; have HH := hide hh; clear hh; go_wp2_with fail; refine cm HC.out ?_; rintro e w2 ⟨rfl, hb2⟩; have HB2 := hide (HB.out.trans (hb2.mono HB.out.size)); clear HC hb2; go_wp2_with fail
     go_roundw
     case rel =>
      refine ⟨k + 1, by omega, by go_num, ?_, HB2.out⟩; rw [HTK.out, List.any_append, HNS.out]; simp [HH.out]
     case measure => simp [intOf]; omega
   ·
    have hkk : k = ts.length := by omega
    subst hkk; go_wp2_with fail; go_ret; refine ⟨⟨-1, rfl, ?_⟩, HB.out⟩; have h := unhide HNS; rw [List.take_length] at h; rw [h]; rfl
 ) : G := h
theorem zbbc {G : Prop} (h : G := by
  obtain ⟨o, h1, h2⟩ := find_ents s l 0 0; have h9 := Tryz.underlying9; have h3 : (Instr.findKey 9 (.string s) (mapOf l).toList).run Tryz.prog W = .ok o W := by
   unfold Instr.findKey; rw [Sem.run_bind, run_underlying h9 W]; simp only [Result.andThen_ok, mapOf]; rw [h1]; rfl
  unfold Instr.lookup; rw [Sem.run_bind, run_underlying hT W]; have hck : ∀ b, (Instr.checkKey b 10000 9 (.string s)).run Tryz.prog W = .ok () W := by
   exact zccl
  have hg : (getObj m).run Tryz.prog W = .ok (.map (mapOf l) k) W := by simp [getObj, Sem.run, hm]
  simp only [Result.andThen_ok, Sem.run_bind, hg, Sem.run_pure, hck, h3]
  cases o with
  | none =>
   cases hf : l.find? (fun e => decide (s = e.1)) with
   | none => simp [hz]
   | some x => rw [hf] at h2; simp at h2
  | some y =>
   cases hf : l.find? (fun e => decide (s = e.1)) with
   | none => rw [hf] at h2; simp at h2
   | some x => rw [hf] at h2; simp at h2; simp [h2]
 ) : G := h
theorem zbbd {G : Prop} (h : G := by
  obtain ⟨k, hk, rfl, hown, hbel⟩ := hrel; have HOWN := hide hown; have HB5 := hide hbel; obtain ⟨oa, oc, rfl⟩ := srow_form hown; clear hown hbel; have HBW := hide (HB4.out.trans (HB5.out.mono HB4.out.size))
  by_cases hlt : k < NL.length
  ·
   obtain ⟨g, cap, q, hv, hg, hcc, hn⟩ := ((HRW.out.later HB5.out).row HBW.out).cell k hlt; simp only [Value.slice.injEq] at hv; obtain ⟨rfl, _, rfl⟩ := hv; obtain ⟨hql, _, q1, _⟩ := hn.cells
   have hki : (k : Int) < (NL.length : Int) := by omega
   have hfl2 : (((NL.take k).map Tr.tx).foldl addB V).length ≤ 70000 := by
    have h1 := fold_len ((NL.take k).map Tr.tx) V; rw [List.length_map, List.length_take] at h1; omega
   have HTK : Hid (((NL.take (k + 1)).map Tr.tx).foldl addB V = addB (((NL.take k).map Tr.tx).foldl addB V) (NL[k]).tx) := by
    show _ = _
    rw [List.take_succ_eq_append_getElem hlt, List.map_append, List.foldl_append]; rfl
   have HC := hide (radd_any (((NL.take k).map Tr.tx).foldl addB V) (NL[k]).tx _ wr HOWN.out (by omega) HBW.out.size)
   generalize (NL[k]).tx = y at q1 HC HTK
   generalize ((NL.take k).map Tr.tx).foldl addB V = M at HC HTK HOWN hfl2
   clear hn; go_wp2_with fail; refine cm HC.out ?_; rintro e w6 ⟨⟨u6, rfl, hr6⟩, hb6⟩; obtain ⟨a6, c6, rfl⟩ := srow_form hr6; have HR6 := hide hr6; have HB6 := hide (HB5.out.trans (hb6.mono HB5.out.size)); exact zccc
  ·
   have hii : k = NL.length := by omega
   subst hii; go_wp2_with fail; go_ret; refine ⟨⟨_, rfl, ?_⟩, HBW.out⟩; have h := unhide HOWN; rw [List.take_length] at h; rw [List.take_length]; exact h
 ) : G := h
end Go.Proofs.YtodmgaikhbmlnaaGreatDoor
