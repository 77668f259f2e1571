/-
  Parts of proofs that stand more than once.
-/
import Derived.Test.YtodmgaikhbmlnaaGreatDoorEc7
set_option maxRecDepth 100000
set_option maxHeartbeats 16000000
namespace Go.Proofs.YtodmgaikhbmlnaaGreatDoor
open Go.RowKit
theorem zrqdt.zrbgX {G : Prop} (h : G := by
  go_loop [13, 15, 207] (fun a _ b => ∃ q : Nat, q ≤ 19 ∧ b = .int .i64 q ∧ ((q ≤ m ∧ a = .string ⟨#[]⟩) ∨ (m < q ∧ a = .string g))) (fun _ _ b => 19 - (intOf b).toNat)
  case atStart => exact ⟨0, Nat.zero_le _, rfl, Or.inl ⟨Nat.zero_le _, rfl⟩⟩
  case round =>
   obtain ⟨q, hq, rfl, hrest⟩ := hrel
   by_cases hq19 : q < 19
   ·
    have hck := unhide HCE q hq19; have hgz := signs_sz q hq19
    rcases hrest with ⟨hqm, rfl⟩ | ⟨hqm, rfl⟩
    ·
     by_cases hqq : q = m
     ·
      subst hqq; rw [HGM.out] at hck hgz; have HPF := hide HYES.out; go_wp2_with fail; refine (hasPrefix_any _ _ _ (by unfold maxLen; simp; omega) (by unfold maxLen; omega)).mono ?_
      rw [HPF.out]; rintro e4 w4 ⟨rfl, rfl⟩; exact zbgd
     ·
      have hpf := unhide HNO q (by omega); obtain ⟨g', hg⟩ : ∃ g', g' = signsS.getD q ByteArray.empty := ⟨_, rfl⟩; rw [← hg] at hck hgz hpf; have HPF := hide hpf; clear hpf hg; go_wp2_with fail
      refine (hasPrefix_any _ _ _ (by unfold maxLen; simp; omega) (by unfold maxLen; omega)).mono ?_
      rw [HPF.out]; rintro e4 w4 ⟨rfl, rfl⟩; go_wp2_with fail
      go_round
      case rel => exact ⟨q + 1, by omega, by go_num, Or.inl ⟨by omega, rfl⟩⟩
      case measure => simp [intOf]; omega
    ·
     obtain ⟨g', hg⟩ : ∃ g', g' = signsS.getD q ByteArray.empty := ⟨_, rfl⟩; rw [← hg] at hck hgz; clear hg; exact zbgd
   ·
    rcases hrest with ⟨hqm, rfl⟩ | ⟨hqm, rfl⟩
    ·
     exfalso; omega
    ·
     go_wp2_with (at_builtin; refine wpList_append_own _ rfl _ _ 61 rfl (w.heap.size + 1) 68 i0 noTok 4 40 Tryz.underlying61 hi hz0 hz1 hz2 rfl (by decide) _ _ _ rfl (HI1.out.own.alloc _) ⟨W1.heap.size, 0, none⟩ 1 1 [.int .i64 5, .string g, .int .i64 0, .int .i64 (j : Int)] rfl rfl (new4_cells _ _ _ _ _) (new4_one _ _ _ _) (by unfold maxLen; omega) (by omega) (by have := HI1.out.size; simp; omega) ?_; intro v' w5 hown' hgrow _; have HI5 := hide (HI1.out.app (t := Tk.mk 5 g 0 j) _ hown' hgrow); clear hown' hgrow)
     exact ⟨WI_mk (j + g.size) (acc ++ [Tk.mk 5 g 0 j]) v' (by omega) (by simp; omega) (by have h := unhide HST; rw [← heg] at h; exact h) HI5.out (by kernel_rfl), by simp [mu6, intOf]; omega⟩
 ) : G := h
theorem zrqdt.zreX {G : Prop} (h : G := by
  have HST := hide ((toksR_go ws signsS s j acc (5) (0) (g) e hlt hrd (by omega)).symm.trans HE.out); have HYES := hide hyes; have HGM := hide hgm; have hemp := notEmpty g hg1; clear hyes hgm; exact zrbg
 ) : G := h
theorem zrqdu.zrcoX {G : Prop} (h : G := by
  clear hx
  by_cases he : x = s
  ·
   have hRt : R = true := by rw [HRR.out, hasB_iff, ← he, HX.out]; exact List.getElem_mem _
   subst he hRt; go_wp2_with fail; go_ret; exact ⟨rfl, rfl⟩
  ·
   have hne := tl_ne he; have HE := hide he; clear he; go_wp2_with fail
   go_roundw
   case rel =>
    refine ⟨k + 1, by omega, by go_num, ?_, trivial⟩; rw [List.take_succ_eq_append_getElem hlt]; intro hm
    rcases List.mem_append.1 hm with hm | hm
    ·
     exact unhide HNS hm
    ·
     exact unhide HE (by rw [HX.out]; exact (List.mem_singleton.1 hm).symm)
   case measure => simp [intOf]; omega
 ) : G := h
theorem zrqdv.zrcxX {G : Prop} (h : G := by
  have HN0 := hide h; obtain ⟨V, hV⟩ : ∃ V, V = if body then varsT t else [] := ⟨_, rfl⟩
  have hVl : V.length ≤ 20000 := by
   rw [hV]
   split
   ·
    omega
   ·
    simp
  have hnm : namesT t body = (((fnsT t) ++ (letsT t)).map Tr.tx).foldl addB V := by
   unfold namesT; rw [← hV, List.append_assoc, onceL, List.foldl_append, List.map_append]; have h1 : V.foldl addB [] = V := by
    rw [hV]
    split
    ·
     exact once_once _
    ·
     rfl
   rw [h1]
  rw [hnm]; have HV := hide hV; have HC0 := hide (rvars_any t p w h hc); clear h hnm htc hvl hc hV; obtain ⟨NL, hNL⟩ : ∃ NL, NL = fnsT t ++ letsT t := ⟨_, rfl⟩; rw [← hNL]
  have hnl : NL.length ≤ 40000 := by rw [hNL, List.length_append]; omega
  have HNL := hide hNL; clear hNL
  cases body with
  | true =>
   have hV2 : V = varsT t := unhide HV; rw [← hV2] at HC0; clear hV2 HV; go_enter Tryz.func36, Tryz.ntmps36; go_wp2_with fail; refine cm HC0.out ?_; rintro e W1 ⟨⟨u1, rfl, hr1⟩, hb1⟩; obtain ⟨A1, C1, rfl⟩ := srow_form hr1
   have HV1 := hide hr1; have HB1 := hide hb1; clear HC0 hr1 hb1; have HC := hide (rfuncs_any t p w W1 HN0.out HB1.out hkl); go_wp2_with fail; refine cm HC.out ?_; rintro e w2 ⟨⟨u2, rfl, hr2⟩, hb2⟩
   have HB2 := hide (HB1.out.trans (hb2.mono HB1.out.size)); have HV2 := hide (SRow.later HV1.out hb2); have HF2 := hide hr2; have HS2 := hide hb2.size; obtain ⟨a2, c2, rfl⟩ := hr2.form
   have HC2 := hide (rlets_any t p w w2 HN0.out HB2.out hkl); clear HC hr2 hb2; go_wp2_with fail; refine cm HC2.out ?_; rintro e w3 ⟨⟨u3, rfl, hr3⟩, hb3⟩; have HB3 := hide (HB2.out.trans (hb3.mono HB2.out.size))
   have HV3 := hide (SRow.later HV2.out hb3); have HS3 := hide (Nat.le_trans HS2.out hb3.size); obtain ⟨a3, c3, rfl⟩ := hr3.form; obtain ⟨ps, hf1, hf2⟩ := HF2.out.later hb3; obtain ⟨qs, hg1, hg2⟩ := hr3
   have hpl := NAts.length _ _ hf2; have hql := NAts.length _ _ hg2; rw [hpl] at hf1; rw [hql] at hg1; have HF3 := hide hf1; have HG3 := hide hg1; have HNS := hide (NAts.append hg2 _ _ hf2)
   have HPQ : Hid (ps.length = (fnsT t).length ∧ qs.length = (letsT t).length) := ⟨hpl, hql⟩; clear HC2 hb3 hf1 hf2 hg1 hg2 hpl hql HF2
   go_wp2_with (at_builtin; refine wpList_app_row rfl _ _ 36 rfl W1.heap.size _ 22 i0 (.pointer none) 8 Tryz.underlying36 hi0 hz0 hz1 hz2 rfl _ _ _ rfl HF3.out _ _ _ rfl HG3.out (ptr_ones qs) (by unfold maxLen; omega) (by omega) HS3.out ?_)
   intro v4 w4 hown4 hgr4; have hob := fun k hk => (own_lt HF3.out k hk).2; have HB4 := hide (HB3.out.grown hgr4 HB3.out.size (fun k hk => Nat.le_trans HB1.out.size (hob k hk))); have HRW : Hid (NRow0 w 0 w4 v4 NL) := by
    have h1 : NRow0 w W1.heap.size w4 v4 (fnsT t ++ letsT t) := by
     refine ⟨ps ++ qs, ?_, HNS.out⟩; rw [List.length_append, List.map_append, HPQ.out.1, HPQ.out.2]; exact hown4
    rw [HNL.out]; exact h1.low (Nat.zero_le _)
   have HV4 : Hid (SRow w.heap.size w4 (.slice A1 V.length C1) V) := owns_stay (I := fun x => x < W1.heap.size) (fun x hx hl => hgr4.block x hl (fun e => absurd (hob x e.symm) (by have h1 : x < W1.heap.size := hx; omega))) (fun g hg => (own_lt HV1.out g hg).1) HV3.out
   obtain ⟨a4, c4, rfl⟩ := HRW.out.form; clear hown4 hgr4 hob HV3 HV2 HNS HPQ HF3 HG3 HS2 HS3; go_wp2_with fail
   go_loopw [5, 17] (fun o j wr => ∃ k : Nat, k ≤ NL.length ∧ j = .int .i64 k ∧ SRow w.heap.size wr o (((NL.take k).map Tr.tx).foldl addB V) ∧ Below w4.heap.size w4 wr) (fun _ j _ => NL.length - (intOf j).toNat)
   case atStart => exact ⟨0, Nat.zero_le _, rfl, HV4.out, Below.refl _ _⟩
   case round =>
    exact zbbd
  | false =>
   have HV1 : Hid (SRow w.heap.size w (.slice none V.length 0) V) := by
    have h1 : V = [] := unhide HV; rw [h1]; exact srow_nil _ _
   have hV0 : V.length = 0 := by
    have h1 : V = [] := unhide HV; rw [h1]; rfl
   have HB1 : Hid (Below w.heap.size w w) := Below.refl _ _; clear HC0 HV; go_enter Tryz.func36, Tryz.ntmps36; have HC := hide (rfuncs_any t p w w HN0.out HB1.out hkl); go_wp2_with fail; refine cm HC.out ?_
   rintro e w2 ⟨⟨u2, rfl, hr2⟩, hb2⟩; have HB2 := hide (HB1.out.trans (hb2.mono HB1.out.size)); have HV2 := hide (SRow.later HV1.out hb2); have HF2 := hide hr2; have HS2 := hide hb2.size; obtain ⟨a2, c2, rfl⟩ := hr2.form
   have HC2 := hide (rlets_any t p w w2 HN0.out HB2.out hkl); clear HC hr2 hb2; go_wp2_with fail; refine cm HC2.out ?_; rintro e w3 ⟨⟨u3, rfl, hr3⟩, hb3⟩; have HB3 := hide (HB2.out.trans (hb3.mono HB2.out.size))
   have HV3 := hide (SRow.later HV2.out hb3); have HS3 := hide (Nat.le_trans HS2.out hb3.size); obtain ⟨a3, c3, rfl⟩ := hr3.form; obtain ⟨ps, hf1, hf2⟩ := HF2.out.later hb3; obtain ⟨qs, hg1, hg2⟩ := hr3
   have hpl := NAts.length _ _ hf2; have hql := NAts.length _ _ hg2; rw [hpl] at hf1; rw [hql] at hg1; have HF3 := hide hf1; have HG3 := hide hg1; have HNS := hide (NAts.append hg2 _ _ hf2)
   have HPQ : Hid (ps.length = (fnsT t).length ∧ qs.length = (letsT t).length) := ⟨hpl, hql⟩; clear HC2 hb3 hf1 hf2 hg1 hg2 hpl hql HF2
   go_wp2_with (at_builtin; refine wpList_app_row rfl _ _ 36 rfl w.heap.size _ 22 i0 (.pointer none) 8 Tryz.underlying36 hi0 hz0 hz1 hz2 rfl _ _ _ rfl HF3.out _ _ _ rfl HG3.out (ptr_ones qs) (by unfold maxLen; omega) (by omega) HS3.out ?_)
   intro v4 w4 hown4 hgr4; have hob := fun k hk => (own_lt HF3.out k hk).2; have HB4 := hide (HB3.out.grown hgr4 HB3.out.size (fun k hk => Nat.le_trans HB1.out.size (hob k hk))); have HRW : Hid (NRow0 w 0 w4 v4 NL) := by
    have h1 : NRow0 w w.heap.size w4 v4 (fnsT t ++ letsT t) := by
     refine ⟨ps ++ qs, ?_, HNS.out⟩; rw [List.length_append, List.map_append, HPQ.out.1, HPQ.out.2]; exact hown4
    rw [HNL.out]; exact h1.low (Nat.zero_le _)
   have HV4 : Hid (SRow w.heap.size w4 (.slice none V.length 0) V) := owns_stay (I := fun x => x < w.heap.size) (fun x hx hl => hgr4.block x hl (fun e => absurd (hob x e.symm) (by have h1 : x < w.heap.size := hx; omega))) (fun g hg => (own_lt HV1.out g hg).1) HV3.out
   obtain ⟨a4, c4, rfl⟩ := HRW.out.form; clear hown4 hgr4 hob HV3 HV2 HNS HPQ HF3 HG3 HS2 HS3; go_wp2_with fail
   go_loopw [5, 17] (fun o j wr => ∃ k : Nat, k ≤ NL.length ∧ j = .int .i64 k ∧ SRow w.heap.size wr o (((NL.take k).map Tr.tx).foldl addB V) ∧ Below w4.heap.size w4 wr) (fun _ j _ => NL.length - (intOf j).toNat)
   case atStart => exact ⟨0, Nat.zero_le _, rfl, by have h := unhide HV4; rw [hV0] at h; exact h, Below.refl _ _⟩
   case round =>
    exact zbbd
 ) : G := h
theorem zrqdw.zrjX {G : Prop} (h : G := by
  rw [decide_eq_true hf] at hx; have HX := hide hx; have HS := hide hs; have HO := hide ho; have HF := hide hF; clear hx h hf hn1 hn3 hn4 hs ho hF; go_enter Tryz.func256, Tryz.ntmps256; go_wp2_with fail
  refine cm HC1.out ?_; rintro e w1 ⟨rfl, rfl⟩; clear HC1; go_wp2_with fail
  go_region
  go_wp2_with fail; refine cm HX.out ?_; rintro e w1 ⟨rfl, hb⟩; have HP1 := hide (((((HPW.out.alloc (boxA c)).alloc (boxB d)).alloc (tokO (tkA c.l i))).drew).later hb)
  have HA1 := hide ((fst_ap c w d (tokO (tkA c.l i))).next (Ap.of hb)); have HB1 := hide ((box2_new c w d (tokO (tkA c.l i)) hR).ap (Ap.of hb)); have q0 := HB1.out.p.cell; have q1 := HB1.out.n.cell
  have HC2 := hide (rhead_any HF.out w1 d i r hd HS.out HO.out HP1.out); clear hb HX h0 h1 k0 k1 k2 k3; go_wp2_with fail; refine cm HC2.out ?_; intro e w2 hp
  cases r with
  | out => exact absurd rfl HO.out
  | bad er pl =>
   obtain ⟨⟨v, rfl, q, rfl⟩, hp2, he, ha⟩ := hp; have H2 := hide hp2; have H3 := hide (HA1.out.next ha); clear hp2 ha HC2; exact zccg
  | ok t j =>
   obtain ⟨⟨v, rfl, q, rfl, hn⟩, hp2, ha⟩ := hp; have H1 : Hid (NAt (fun b => w.heap.size ≤ b) w2 t q) := NAt.mono (fun b hb _ => Nat.le_trans HA1.out.size hb) _ _ hn; have H2 := hide hp2; have H3 := hide (HA1.out.next ha)
   clear hn hp2 ha HC2; exact zcce
 ) : G := h
theorem zrqdx.zrxX {G : Prop} (h : G := by
  have HC2 := hide (rskip_yes c w1 i tFunction (by decide) HFX.out HP1.out); go_wp2_with fail; refine cm HC2.out ?_; rintro e w2 ⟨rfl, hp2, ha2⟩; have HP2 := hide hp2; have HA2 := hide (HA1.out.next ha2)
  have HB2 := hide (HB1.out.ap ha2); have q0 := HB2.out.p.cell; have h0 := hp2.c0; have h1 := hp2.c1; obtain ⟨k0, k1, k2, k3⟩ := hp2.toks; have hlt2 : ((i : Int) + 1) < (c.l.length : Int) := by have := hp2.lt; omega
  have hc1 : (((i + 1 : Nat)) : Int) = (i : Int) + 1 := by omega
  rw [hc1] at h1; have q1 := HB2.out.n.cell; clear hp2 ha2 HC2 HP1 HA1 HB1 hc1
  by_cases hk : (tkA c.l (i + 1)).kd = 1
  ·
   have hin : isName c.l (i + 1) = true := by unfold isName; rw [hk]; rfl
   have hnm : nameP c.l (i + 1) = .ok (tkA c.l (i + 1)).tx (i + 2) := by unfold nameP; rw [if_pos hk]
   rw [hin, if_pos rfl, hnm, bind_ok] at HS; rw [hk] at k0; have HC3 := hide (rident_any c w2.drew (i + 1) HP2.out.drew); rw [hnm] at HC3; clear hk hin hnm; go_wp2_with fail
   go_region
   go_wp2_with fail; refine cm HC3.out ?_; rintro e w3 ⟨⟨v, rfl, rfl⟩, hp3, ha3⟩; have HA3 := hide (HA2.out.drew.next ha3)
   have HB3 := hide ((⟨⟨HB2.out.p.blk, HB2.out.p.ne⟩, ⟨HB2.out.n.blk, HB2.out.n.ne⟩⟩ : Box2 c w.heap.size (w.heap.size + 1) d w2.drew).ap ha3); have q2 := HB3.out.p.cell; have q3 := HB3.out.n.cell
   have HC5 := hide (rfunction_any HF.out HNX.out HKO.out w3 37 (tkA c.l (i + 1)).tx d (i + 2) r hd HS.out HO.out hp3); clear hp3 ha3 HC3 h0 h1 k0 k1 k2 k3 q0 q1; exact zbcm
  ·
   have hin : isName c.l (i + 1) = false := by unfold isName; exact beq_eq_false_iff_ne.2 hk
   have b1 : ((tkA c.l (i + 1)).kd == 1) = false := beq_eq_false_iff_ne.2 hk; rw [hin, if_neg (by decide)] at HS
   have HC5 := hide (rfunction_any HF.out HNX.out HKO.out w2.drew 37 noText d (i + 1) r hd HS.out HO.out HP2.out.drew); have HA3 := hide (HA2.out.drew); clear hk hin; go_wp2_with fail
   go_region
   exact zbcm
 ) : G := h
theorem zrqdx.zrjX {G : Prop} (h : G := by
  rw [decide_eq_false hnp] at hx; have HX := hide hx; have HS := hide hs; have HO := hide ho; have HF := hide hF; have HNX := hide hN; have HKO := hide hK; have HFX := hide hf
  clear hx h hf hn1 hn3 hn4 hs ho hF hN hK hm hnp; exact zrx
 ) : G := h
theorem zrqdy.zrxX {G : Prop} (h : G := by
  have HC2 := hide (rskip_no c w1 i tFunction (by decide) HNF.out HP1.out); go_wp2_with fail; refine cm HC2.out ?_; rintro e w2 ⟨rfl, hb2⟩; have HP2 := hide (HP1.out.later hb2); have HA2 := hide (HA1.out.next (Ap.of hb2))
  have HB2 := hide (HB1.out.ap (Ap.of hb2)); have q1 := HB2.out.p.cell; have HC3 := hide (rskip_yes c w2 i tLBrace (by decide) HFX.out HP2.out); clear hb2 HC2 HP1 HA1 HB1 q0; go_wp2_with fail; refine cm HC3.out ?_
  rintro e w3 ⟨rfl, hp3, ha3⟩; have HA3 := hide (HA2.out.next ha3); have HB3 := hide (HB2.out.ap ha3); have q2 := HB3.out.p.cell; have hbl := HB3.out.n.lt; have HP3 := hide hp3; clear hp3 ha3 HC3 HP2 HA2 HB2 q1
  cases hr : rlistLoop c.l tRBrace (propP c.l F d) F.fuel [] (i + 1) with
  | out => rw [hr] at HS; exact absurd HS.out HO.out
  | bad er pl =>
   have HC4 := hide (rlist_any (prop_part HF.out w.heap.size (w.heap.size + 1) d hd) tRBrace (by decide) F.fuel w3 (i + 1) _ hr.symm (by nofun) HB3.out (by omega) HP3.out); rw [hr] at HS
   have hq : r = .bad er pl := unhide HS; subst hq; clear hr; go_wp2_with fail; refine cm HC4.out ?_; rintro e w4 ⟨⟨v, rfl, a, n, k, rfl⟩, ⟨j, hp4⟩, he, ha4⟩; have H2 := hide hp4; have H3 := hide (HA3.out.next ha4)
   clear hp4 ha4 HC4; go_wp2_with fail; go_ret; exact ⟨⟨_, rfl, _, rfl⟩, ⟨j, H2.out.alloc _⟩, he, H3.out.alloc H3.out.size _⟩
  | ok ts j =>
   have HC4 := hide (rlist_any (prop_part HF.out w.heap.size (w.heap.size + 1) d hd) tRBrace (by decide) F.fuel w3 (i + 1) _ hr.symm (by nofun) HB3.out (by omega) HP3.out); rw [hr] at HS
   have hq : r = .ok (.mk 38 noText 0 ts) j := unhide HS; subst hq; clear hr; go_wp2_with fail; refine cm HC4.out ?_; rintro e w4 ⟨⟨v, rfl, hkv⟩, hp4, ha4⟩; obtain ⟨a, k, rfl⟩ := hkv.shape
   have H1 := hide (hkv.mono HA3.out.size); have H2 := hide hp4; have H3 := hide (HA3.out.next ha4); clear hp4 ha4 HC4 hkv; go_wp2_with fail; go_ret
   exact ⟨⟨_, rfl, (EV.new H1.out H3.out.size 38 noText 0).nv⟩, H2.out.alloc _, H3.out.alloc H3.out.size _⟩
 ) : G := h
theorem zrqdy.zrjX {G : Prop} (h : G := by
  rw [decide_eq_false hnp] at hx; have HX := hide hx; have HS := hide hs; have HO := hide ho; have HF := hide hF; have HFX := hide hf; have HNF := hide hnf; clear hx h hf hn1 hn3 hn4 hs ho hF hm hnp hnf; exact zrx
 ) : G := h
theorem zrqdz.zrbnX {G : Prop} (h : G := by
  generalize tkA c.l i = t at *
  go_wp2_with fail; go_ret; have hn : ((i : Int) + 1) = (((i + 1 : Nat)) : Int) := by omega
  rw [hn]; refine ⟨⟨_, rfl, nv_leaf2 (by have := HA3.out.size; simp; omega) _ noText 0 _ (by simp)⟩, ?_, ?_⟩
  ·
   exact ((HP3.out.step hl).alloc _).alloc _
  ·
   exact ((HA3.out.setCell (p := ⟨c.P, 1, none⟩) (Or.inr rfl) _).alloc (by have := HA3.out.size; simp; omega) _).alloc (by have := HA3.out.size; simp; omega) _
 ) : G := h
theorem zrqdz.zrxX {G : Prop} (h : G := by
  exact zrbn
 ) : G := h
theorem zrqdz.zrjX {G : Prop} (h : G := by
  exact zear
 ) : G := h
theorem zrqea.zrbnX {G : Prop} (h : G := by
  have HC4 := hide (rfail_new c (w3.alloc (.map m4 4)) i 3 (by decide) (HP3.out.alloc _)); have HA4 := hide (HA3.out.alloc HA3.out.size (.map m4 4))
  have hdone : ∀ e w4, NPost c (w3.alloc (.map m4 4)) 3 ((tkA c.l i).pl : Int) ZN e w4 → QPost c w (NV w.heap.size) ZN (badF c.l 3 i) e w4 := fun e w4 hp => npost_trans HA4.out hp; have HD := hide hdone; clear hdone
  generalize hX : badF (α := Tr) c.l 3 i = X at *
  clear hX
  generalize ((tkA c.l i).pl : Int) = PL at *
  generalize tkA c.l i = t at *
  by_cases hk2 : t.kd = 2
  ·
   have bk : (t.kd == 2) = true := beq_iff_eq.2 hk2; have hlk : ¬ 0 < litK t.tx := fun hh => hno ⟨hk2, hh⟩; exact zbew
  ·
   have bk : (t.kd == 2) = false := beq_eq_false_iff_ne.2 hk2; exact zbew
 ) : G := h
theorem zrqea.zrxX {G : Prop} (h : G := by
  exact zrbn
 ) : G := h
theorem zrqea.zrjX {G : Prop} (h : G := by
  exact zear
 ) : G := h
theorem zrqeb.zrcjX {G : Prop} (h : G := by
  refine ⟨⟨_, rfl, nv_leaf2 (by simp; omega) 23 t.tx 0 _ (by simp)⟩, ?_, ?_⟩
  ·
   exact zbge
  ·
   exact zbdm
 ) : G := h
theorem zrqeb.zrkX {G : Prop} (h : G := by
  have b1 : ((tkA c.l i).kd == 1) = true := beq_iff_eq.2 hk; exact zrcj
 ) : G := h
theorem zrqec.zrcjX {G : Prop} (h : G := by
  refine ⟨⟨_, rfl, nv_leaf2 (by simp; omega) 17 noText t.n _ (by simp)⟩, ?_, ?_⟩
  ·
   exact zbge
  ·
   exact zbdm
 ) : G := h
theorem zrqec.zrkX {G : Prop} (h : G := by
  have b1 : ((tkA c.l i).kd == 1) = false := by rw [hk]; rfl
  have b3 : ((tkA c.l i).kd == 3) = true := beq_iff_eq.2 hk; exact zrcj
 ) : G := h
theorem zrqed.zrcjX {G : Prop} (h : G := by
  refine ⟨⟨_, rfl, nv_leaf2 (by simp; omega) 18 t.tx 0 _ (by simp)⟩, ?_, ?_⟩
  ·
   exact zbge
  ·
   exact zbdm
 ) : G := h
theorem zrqed.zrkX {G : Prop} (h : G := by
  have b1 : ((tkA c.l i).kd == 1) = false := by rw [hk]; rfl
  have b3 : ((tkA c.l i).kd == 3) = false := by rw [hk]; rfl
  have b4 : ((tkA c.l i).kd == 4) = true := beq_iff_eq.2 hk; exact zrcj
 ) : G := h
theorem zrqee.zrbvX {G : Prop} (h : G := by
  by_cases h5 : (tkA c.l j).kd = 5
  ·
   rcases fits_ways s (tkA c.l j).tx with ⟨hf, b1⟩ | ⟨hf, b1, b2, b3⟩ | ⟨hf, b1, b2, b3, b4⟩ | ⟨hf, b1, b2⟩ | ⟨hf, b1, b2, b3, b4⟩
   ·
    exact zbab
   ·
    exact zbab
   ·
    exact zbab
   all_goals
    have b5 : ((tkA c.l j).kd != 5) = false := by rw [h5]; rfl
    rw [if_neg (fun h => by rw [hf] at h; exact absurd h.2 (by decide))] at HQ
    have hq : r = .ok t j := HQ.out.symm; subst hq; clear HQ hf h5 HPC HNX HO HK HSO
    generalize tkA c.l j = tk at *
    go_wp2_with fail; refine cm HC1.out ?_; rintro e w2 ⟨rfl, rfl⟩; clear HC1; go_wp2_with fail
    go_region
    go_wp2_with fail
    go_region
    go_wp2_with fail; go_ret
    exact ⟨⟨_, rfl, q, rfl, nv_at (NV.later ⟨q, rfl, HN.out⟩ (((Ap.refl c.P w2.heap.size w2).alloc (Nat.le_refl _) _).drew.drew) HLT.out)⟩, (HPS.out.alloc _).drew.drew, (HAP.out.alloc HAP.out.size _).drew.drew⟩
  ·
   exact zbch
 ) : G := h
theorem zrqee.zrdzX {G : Prop} (h : G := by
  go_loopg [7] F.fuel (fun k v wr => (∃ t j, rpairLoop c.l (rpairs c.l F d rest) s k t j = r ∧ NV w.heap.size wr t v ∧ Ps c wr j 0 (-1) ∧ Ap c.P w.heap.size w wr)
   ∨ (∃ er pl, r = .bad er pl ∧ er ≠ 0 ∧ (∃ j, Ps c wr j er (pl : Int)) ∧ Ap c.P w.heap.size w wr ∧ ZN v))
  case atStart => exact Or.inl ⟨t0, j0, HS2.out, HN1.out, HP1.out, HA1.out⟩
  case round =>
   exact zeai
 ) : G := h
theorem zrqef.zrbvX {G : Prop} (h : G := by
  by_cases h5 : (tkA c.l j).kd = 5
  ·
   rcases fits_ways s (tkA c.l j).tx with ⟨hf, b1⟩ | ⟨hf, b1, b2, b3⟩ | ⟨hf, b1, b2, b3, b4⟩ | ⟨hf, b1, b2⟩ | ⟨hf, b1, b2, b3, b4⟩
   ·
    exact zbac
   ·
    exact zbac
   ·
    exact zbac
   all_goals
    have b5 : ((tkA c.l j).kd != 5) = false := by rw [h5]; rfl
    rw [if_neg (fun h => by rw [hf] at h; exact absurd h.2 (by decide))] at HQ
    have hq : r = .ok t j := HQ.out.symm; subst hq; clear HQ hf h5 HPC HNX HO HK HSO
    generalize tkA c.l j = tk at *
    go_wp2_with fail; refine cm HC1.out ?_; rintro e w2 ⟨rfl, rfl⟩; clear HC1; go_wp2_with fail
    go_region
    go_wp2_with fail
    go_region
    go_wp2_with fail; go_ret
    exact ⟨⟨_, rfl, q, rfl, nv_at (NV.later ⟨q, rfl, HN.out⟩ (((Ap.refl c.P w2.heap.size w2).alloc (Nat.le_refl _) _).drew.drew) HLT.out)⟩, (HPS.out.alloc _).drew.drew, (HAP.out.alloc HAP.out.size _).drew.drew⟩
  ·
   exact zbch
 ) : G := h
theorem zrqef.zrdzX {G : Prop} (h : G := by
  go_loopg [7] F.fuel (fun k v wr => (∃ t j, rpairLoop c.l (rpairs c.l F d []) s k t j = r ∧ NV w.heap.size wr t v ∧ Ps c wr j 0 (-1) ∧ Ap c.P w.heap.size w wr)
   ∨ (∃ er pl, r = .bad er pl ∧ er ≠ 0 ∧ (∃ j, Ps c wr j er (pl : Int)) ∧ Ap c.P w.heap.size w wr ∧ ZN v))
  case atStart => exact Or.inl ⟨t0, j0, HS2.out, HN1.out, HP1.out, HA1.out⟩
  case round =>
   exact zeai
 ) : G := h
theorem zrqeg.zrdrX {G : Prop} (h : G := by
  have HB : Hid (Below w.heap.size wv (((wv.setCell ⟨w.heap.size, 0, none⟩ (.int .i64 11)).setCell ⟨w.heap.size, 3, none⟩ (.slice (some ⟨wv.heap.size, 0, none⟩) 1 1)).alloc (.cells #[nPtr q] 22))) := (((Below.refl w.heap.size wv).setCell (p := ⟨w.heap.size, 0, none⟩) (Nat.le_refl _) _).setCell (p := ⟨w.heap.size, 3, none⟩) (Nat.le_refl _) _).alloc (by simp; omega) _
  have HA := hide (hA.trans (Ap.of HB.out)); have HP := hide (hp1.ap HB.out HLO.out)
  have HN : Hid (NV w.heap.size (((wv.setCell ⟨w.heap.size, 0, none⟩ (.int .i64 11)).setCell ⟨w.heap.size, 3, none⟩ (.slice (some ⟨wv.heap.size, 0, none⟩) 1 1)).alloc (.cells #[nPtr q] 22)) (.mk 11 noText 0 [t]) (nPtr w.heap.size)) := st_row (Nat.le_refl _) (lt_of_heap HS12.out.nd) (set2 wv w.heap.size _ _) (by simp) ha.size (by rw [heap_set (heap_set nb _)]; rfl) (NAts.cons hn NAts.nil) rfl #[nPtr q] rfl (by simp [maxLen])
  have HC2 := hide (rmust_any c _ j tSemi (by decide) HP.out); clear hp1 ha HC nb hA hn; go_wp2_with fail; refine cm HC2.out ?_; intro e wz hp
  cases hr2 : mustP c.l tSemi j with
  | out => rw [hr2] at HQ2; exact absurd HQ2.out HO.out
  | bad er pl =>
   exact zbcg
  | ok x j2 =>
   rw [hr2] at hp HQ2; have hq : r = .ok (.mk 11 noText 0 [t]) j2 := unhide HQ2; exact zbci
 ) : G := h
theorem zrqeg.zrdlX {G : Prop} (h : G := by
  have HB : Hid (Below w.heap.size wv (((wv.setCell ⟨w.heap.size, 0, none⟩ (.int .i64 11)).setCell ⟨w.heap.size, 3, none⟩ (.slice (some ⟨wv.heap.size, 0, none⟩) 1 1)).alloc (.cells #[nPtr q] 22))) := (((Below.refl w.heap.size wv).setCell (p := ⟨w.heap.size, 0, none⟩) (Nat.le_refl _) _).setCell (p := ⟨w.heap.size, 3, none⟩) (Nat.le_refl _) _).alloc (by simp; omega) _
  exact zbcq
 ) : G := h
theorem zrqeg.zrvX {G : Prop} (h : G := by
  have HC := hide (rskip_no c w10 i tReturn (by decide) n10 HS10.out.ps); go_wp2_with fail; refine cm HC.out ?_; rintro e w11 ⟨rfl, hb⟩; have HS11 := hide (HS10.out.below hb); clear hb HC HS10
  have HC := hide (rskip_yes c w11 i tThrow (by decide) hf HS11.out.ps); go_wp2_with fail; refine cm HC.out ?_; rintro e w12 ⟨rfl, hp, ha⟩; have HS12 := hide (HS11.out.on HLT.out hp ha); clear hp ha HC HS11
  have HQ := hide hs; clear ho hs hF hN hK
  cases hr : deepP c.l F.vl d (i + 1) with
  | out => rw [hr] at HQ; exact absurd HQ.out HO.out
  | bad er pl =>
   have HC := hide (HF.out.vl w12 d (i + 1) _ hd hr.symm (by nofun) HS12.out.ps); exact zrdl
  | ok t j =>
   have HC := hide (HF.out.vl w12 d (i + 1) _ hd hr.symm (by nofun) HS12.out.ps); rw [hr] at HQ; have hq : r = (mustP c.l tSemi j).bind fun _ i2 => .ok (.mk 11 noText 0 [t]) i2 := unhide HQ; exact zrdr
 ) : G := h
theorem zrqeg.zraX {G : Prop} (h : G := by
  exact zrv
 ) : G := h
theorem zrqeg.zrdwX {G : Prop} (h : G := by
  have n10 : ¬ fx c.l i = tReturn := by rw [hf]; decide
  exact zra
 ) : G := h
theorem zrqeg.zrnX {G : Prop} (h : G := by
  exact zrdw
 ) : G := h
theorem zrqeh.zrdrX {G : Prop} (h : G := by
  have HB : Hid (Below w.heap.size wv (((wv.setCell ⟨w.heap.size, 0, none⟩ (.int .i64 15)).setCell ⟨w.heap.size, 3, none⟩ (.slice (some ⟨wv.heap.size, 0, none⟩) 1 1)).alloc (.cells #[nPtr q] 22))) := (((Below.refl w.heap.size wv).setCell (p := ⟨w.heap.size, 0, none⟩) (Nat.le_refl _) _).setCell (p := ⟨w.heap.size, 3, none⟩) (Nat.le_refl _) _).alloc (by simp; omega) _
  have HA := hide (hA.trans (Ap.of HB.out)); have HP := hide (hp1.ap HB.out HLO.out)
  have HN : Hid (NV w.heap.size (((wv.setCell ⟨w.heap.size, 0, none⟩ (.int .i64 15)).setCell ⟨w.heap.size, 3, none⟩ (.slice (some ⟨wv.heap.size, 0, none⟩) 1 1)).alloc (.cells #[nPtr q] 22)) (.mk 15 noText 0 [t]) (nPtr w.heap.size)) := st_row (Nat.le_refl _) (lt_of_heap HS12.out.nd) (set2 wv w.heap.size _ _) (by simp) ha.size (by rw [heap_set (heap_set nb _)]; rfl) (NAts.cons hn NAts.nil) rfl #[nPtr q] rfl (by simp [maxLen])
  have HC2 := hide (rmust_any c _ j tSemi (by decide) HP.out); clear hp1 ha HC nb hA hn; go_wp2_with fail; refine cm HC2.out ?_; intro e wz hp
  cases hr2 : mustP c.l tSemi j with
  | out => rw [hr2] at HQ2; exact absurd HQ2.out HO.out
  | bad er pl =>
   exact zbcg
  | ok x j2 =>
   rw [hr2] at hp HQ2; have hq : r = .ok (.mk 15 noText 0 [t]) j2 := unhide HQ2; exact zbci
 ) : G := h
theorem zrqeh.zrdlX {G : Prop} (h : G := by
  have HB : Hid (Below w.heap.size wv (((wv.setCell ⟨w.heap.size, 0, none⟩ (.int .i64 15)).setCell ⟨w.heap.size, 3, none⟩ (.slice (some ⟨wv.heap.size, 0, none⟩) 1 1)).alloc (.cells #[nPtr q] 22))) := (((Below.refl w.heap.size wv).setCell (p := ⟨w.heap.size, 0, none⟩) (Nat.le_refl _) _).setCell (p := ⟨w.heap.size, 3, none⟩) (Nat.le_refl _) _).alloc (by simp; omega) _
  exact zbcq
 ) : G := h
theorem zrqeh.zrvX {G : Prop} (h : G := by
  have HC := hide (rskip_no c w10 i tReturn (by decide) n10 HS10.out.ps); go_wp2_with fail; refine cm HC.out ?_; rintro e w11 ⟨rfl, hb⟩; have HS11 := hide (HS10.out.below hb); clear hb HC HS10
  have HC := hide (rskip_no c w11 i tThrow (by decide) n11 HS11.out.ps); go_wp2_with fail; refine cm HC.out ?_; rintro e w12 ⟨rfl, hb⟩; have HS12 := hide (HS11.out.below hb); clear hb HC HS11; have HQ := hide hs
  clear ho hs hF hN hK
  cases hr : deepP c.l F.vl d i with
  | out => rw [hr] at HQ; exact absurd HQ.out HO.out
  | bad er pl =>
   have HC := hide (HF.out.vl w12 d i _ hd hr.symm (by nofun) HS12.out.ps); exact zrdl
  | ok t j =>
   have HC := hide (HF.out.vl w12 d i _ hd hr.symm (by nofun) HS12.out.ps); rw [hr] at HQ; have hq : r = (mustP c.l tSemi j).bind fun _ i2 => .ok (.mk 15 noText 0 [t]) i2 := unhide HQ; exact zrdr
 ) : G := h
theorem zrqeh.zraX {G : Prop} (h : G := by
  exact zrv
 ) : G := h
theorem zrqeh.zrqX {G : Prop} (h : G := by
  exact zra
 ) : G := h
theorem zrqei.zrgX {G : Prop} (h : G := by
  have HC := hide (rskip_yes c w1 i tSemi (by decide) hf HS1.out.ps); go_wp2_with fail; refine cm HC.out ?_; rintro e w2 ⟨rfl, hp, ha⟩; have HS2 := hide (HS1.out.on HLT.out hp ha); clear hp ha HC HS1; subst hs
  have nb := HS2.out.nd; obtain ⟨c0, c1, c2, c3, cf⟩ := node_cells nb; have cf0 := cf 0; have hnl := lt_of_heap nb; have HB := hide nb; clear nb; go_wp2_with fail; go_ret
  refine ⟨⟨_, rfl, st_done (Nat.le_refl _) (by rw [heap_set HB.out]; rfl) owns_nil NAts.nil⟩, ?_, ?_⟩
  ·
   exact HS2.out.ps.ap ((Below.refl w.heap.size w2).setCell (p := ⟨w.heap.size, 0, none⟩) (Nat.le_refl _) _) HLO.out
  ·
   exact HS2.out.ap.setCell (p := ⟨w.heap.size, 0, none⟩) (Or.inl (Nat.le_refl _)) _
 ) : G := h
theorem zrqei.zrqX {G : Prop} (h : G := by
  have n0 : ¬ fx c.l i = tLBrace := by rw [hf]; decide
  exact zrg
 ) : G := h
theorem zrqej.zrgX {G : Prop} (h : G := by
  have HC := hide (rskip_no c w1 i tSemi (by decide) n1 HS1.out.ps); go_wp2_with fail; refine cm HC.out ?_; rintro e w2 ⟨rfl, hb⟩; have HS2 := hide (HS1.out.below hb); clear hb HC HS1
  have HC := hide (rskip_yes c w2 i tFunction (by decide) hf HS2.out.ps); go_wp2_with fail; refine cm HC.out ?_; rintro e w3 ⟨rfl, hp, ha⟩; have HS3 := hide (HS2.out.on HLT.out hp ha); clear hp ha HC HS2
  have HQ := hide hs; have HC := hide (rident_any c w3 (i + 1) HS3.out.ps); clear ho hs hF hN hK; go_wp2_with fail; refine cm HC.out ?_; intro e w9 hp; clear HC
  cases hr : nameP c.l (i + 1) with
  | out => rw [hr] at HQ; exact absurd HQ.out HO.out
  | bad er pl =>
   rw [hr] at hp HQ; have hq : r = .bad er pl := unhide HQ; subst hq; obtain ⟨⟨v, rfl, s, rfl⟩, ⟨j, hp1⟩, he, ha⟩ := hp; have HA := hide (HS3.out.ap.next ha)
   have HC := hide (rfunction_old c w9 j er pl 5 (d : Int) s he hp1); clear hp1 ha hr HQ; go_wp2_with fail; refine cm HC.out ?_; rintro e wz ⟨⟨v, rfl, q, rfl⟩, hp2, _, ha2⟩; have HP2 := hide hp2
   have HA2 := hide (HA.out.next ha2); clear hp2 ha2 HC; exact zbcw
  | ok s j =>
   rw [hr] at hp HQ; have hq : r = rfuncTail c.l F 5 s d j := unhide HQ; obtain ⟨⟨v, rfl, rfl⟩, hp1, ha⟩ := hp; have HS9 := hide (HS3.out.on HLT.out hp1 ha)
   have HC := hide (rfunction_any HF.out HNN.out HKK.out w9 5 s d j r hd hq HO.out hp1); clear hp1 ha hr HQ hq; go_wp2_with fail; refine cm HC.out ?_; intro e wz hp
   cases r with
   | out => exact absurd rfl HO.out
   | bad er pl =>
    obtain ⟨⟨v, rfl, q, rfl⟩, hp1, he, ha⟩ := hp; have HP := hide hp1; have HA := hide (HS9.out.ap.next ha); exact zcbw
   | ok t j =>
    obtain ⟨⟨v, rfl, q, rfl, hn⟩, hp1, ha⟩ := hp; have HP := hide hp1; have HA := hide (HS9.out.ap.next ha)
    have HN := hide (NAt.mono (fun b hb _ => Nat.le_trans HS9.out.ap.size hb) _ _ hn : NAt (fun b => w.heap.size ≤ b) wz t q); exact zcbt
 ) : G := h
theorem zrqej.zroX {G : Prop} (h : G := by
  exact zrg
 ) : G := h
theorem zrqek.zrqX {G : Prop} (h : G := by
  have HS0 := hide (Stn.new h); have hc := rnext_any c (w.alloc nd0) i tLBrace (by decide) HS0.out.ps; rw [decide_eq_true hf] at hc; have HC := hide hc; clear hc; clear h; go_enter Tryz.func47, Tryz.ntmps47
  go_wp2_with fail; refine cm HC.out ?_; rintro e w1 ⟨rfl, hb⟩; have HS1 := hide (HS0.out.below hb); clear hb HC HS0; have HC := hide (rbraces_any HF.out HNN.out HKK.out false w1 d i r hd (by rw [hs]; rfl) ho HS1.out.ps)
  clear ho hs hF hN hK; go_wp2_with fail; refine cm HC.out ?_; intro e wz hp
  cases r with
  | out => exact absurd rfl HO.out
  | bad er pl =>
   obtain ⟨⟨v, rfl, q, rfl⟩, hp1, he, ha⟩ := hp; have HP := hide hp1; have HA := hide (HS1.out.ap.next ha); exact zcbw
  | ok t j =>
   obtain ⟨⟨v, rfl, q, rfl, hn⟩, hp1, ha⟩ := hp; have HP := hide hp1; have HA := hide (HS1.out.ap.next ha)
   have HN := hide (NAt.mono (fun b hb _ => Nat.le_trans HS1.out.ap.size hb) _ _ hn : NAt (fun b => w.heap.size ≤ b) wz t q); exact zcbt
 ) : G := h
theorem zrqel.zrbhX {G : Prop} (h : G := by
  have HP := hide (hp1.ap HB.out HLO.out)
  have HN : Hid (NV w.heap.size ((wv.setCell ⟨w.heap.size, 3, none⟩ (.slice (some ⟨wv.heap.size, 0, none⟩) 1 1)).alloc (.cells #[nPtr q] 22)) (.mk 10 noText 0 [t]) (nPtr w.heap.size)) := st_row (Nat.le_refl _) (lt_of_heap HK1.out.nd) (set1 wv w.heap.size _) (by simp) ha.size (by rw [heap_set nb]; rfl) (NAts.cons hn NAts.nil) rfl #[nPtr q] rfl (by simp [maxLen])
  have HC2 := hide (rmust_any c _ j tSemi (by decide) HP.out); clear hp1 ha HC nb hA hn; go_wp2_with fail; refine cm HC2.out ?_; intro e wz hp
  cases hr2 : mustP c.l tSemi j with
  | out => rw [hr2] at HQ2; exact absurd HQ2.out HO.out
  | bad er pl =>
   exact zbcg
  | ok x j2 =>
   rw [hr2] at hp HQ2; have hq : r = .ok (.mk 10 noText 0 [t]) j2 := unhide HQ2; exact zbci
 ) : G := h
theorem zrqel.zrvX {G : Prop} (h : G := by
  have HC := hide (rskip_yes c w10 i tReturn (by decide) hf HS10.out.ps); go_wp2_with fail; refine cm HC.out ?_; rintro e w11 ⟨rfl, hp, ha⟩; have HS11 := hide (HS10.out.on HLT.out hp ha); clear hp ha HC HS10
  clear ho hF hN hK; have HK0 := hide (HS11.out.kind HLO.out 10); have hc := rnext_any c _ (i + 1) tSemi (by decide) HK0.out.ps; have nb := HS11.out.nd; obtain ⟨c0, c1, c2, c3, cf⟩ := node_cells nb; have cf0 := cf 0
  have cf3 := cf 3; have hnl := lt_of_heap nb; clear nb
  by_cases hx : fx c.l (i + 1) = tSemi
  ·
   rw [decide_eq_true hx] at hc; have HC := hide hc; rw [if_neg (fun h => h hx)] at HQ; clear hc hx; go_wp2_with fail; refine cm HC.out ?_; rintro e wx ⟨rfl, hb⟩; have HK1 := hide (HK0.out.below hb)
   clear hb HC c0 c1 c2 c3 cf cf0 cf3 hnl; have HA := hide HK1.out.ap; have HN : Hid (NV w.heap.size wx (.mk 10 noText 0 []) (nPtr w.heap.size)) := st_done (Nat.le_refl _) HK1.out.nd owns_nil NAts.nil
   have HC2 := hide (rmust_any c wx (i + 1) tSemi (by decide) HK1.out.ps); have HQ2 := HQ; clear HQ; go_wp2_with fail; refine cm HC2.out ?_; intro e wz hp
   cases hr2 : mustP c.l tSemi (i + 1) with
   | out => rw [hr2] at HQ2; exact absurd HQ2.out HO.out
   | bad er pl =>
    exact zbcg
   | ok x j2 =>
    rw [hr2] at hp HQ2; have hq : r = .ok (.mk 10 noText 0 []) j2 := unhide HQ2; exact zbci
  ·
   rw [decide_eq_false hx] at hc; have HC := hide hc; rw [if_pos hx] at HQ; clear hc hx; go_wp2_with fail; refine cm HC.out ?_; rintro e wx ⟨rfl, hb⟩; have HK1 := hide (HK0.out.below hb)
   clear hb HC c0 c1 c2 c3 cf cf0 cf3 hnl
   cases hr : deepP c.l F.vl d (i + 1) with
   | out => rw [hr] at HQ; exact absurd HQ.out HO.out
   | bad er pl =>
    have HC := hide (HF.out.vl wx d (i + 1) _ hd hr.symm (by nofun) HK1.out.ps); rw [hr] at HQ; have hq : r = .bad er pl := unhide HQ; subst hq; clear hr HQ; go_wp2_with fail; refine cm HC.out ?_
    rintro e wv ⟨⟨v, rfl, q, rfl⟩, ⟨j, hp1⟩, he, ha⟩; have nb := (ha.block _ (lt_of_heap HK1.out.nd) (by have := unhide HLT; omega)).trans HK1.out.nd
    obtain ⟨c0, c1, c2, c3, cf⟩ := node_cells nb; have cf3 := cf 3; have hnl := lt_of_heap nb; have hA := HK1.out.ap.next ha
    have HB : Hid (Below w.heap.size wv ((wv.setCell ⟨w.heap.size, 3, none⟩ (.slice (some ⟨wv.heap.size, 0, none⟩) 1 1)).alloc (.cells #[nPtr q] 22))) := ((Below.refl w.heap.size wv).setCell (p := ⟨w.heap.size, 3, none⟩) (Nat.le_refl _) _).alloc (by simp; omega) _
    exact zbcq
   | ok t j =>
    have HC := hide (HF.out.vl wx d (i + 1) _ hd hr.symm (by nofun) HK1.out.ps); rw [hr] at HQ; have hq : r = (mustP c.l tSemi j).bind fun _ i2 => .ok (.mk 10 noText 0 [t]) i2 := unhide HQ; have HQ2 := hide hq
    clear hr HQ hq; go_wp2_with fail; refine cm HC.out ?_; rintro e wv ⟨⟨v, rfl, q, rfl, hn⟩, hp1, ha⟩; have nb := (ha.block _ (lt_of_heap HK1.out.nd) (by have := unhide HLT; omega)).trans HK1.out.nd
    obtain ⟨c0, c1, c2, c3, cf⟩ := node_cells nb; have cf3 := cf 3; have hnl := lt_of_heap nb; have hA := HK1.out.ap.next ha; exact zrbh
 ) : G := h
theorem zrqel.zraX {G : Prop} (h : G := by
  exact zrv
 ) : G := h
theorem zrqel.zrdwX {G : Prop} (h : G := by
  have HQ := hide hs; clear hs; exact zra
 ) : G := h
theorem zrqel.zrnX {G : Prop} (h : G := by
  exact zrdw
 ) : G := h
theorem zrqem.zrbbX {G : Prop} (h : G := by
  have HN : Hid (NV w.heap.size ((wv.setCell ⟨w.heap.size, 3, none⟩ (.slice (some ⟨wv.heap.size, 0, none⟩) 2 2)).alloc (.cells #[nPtr q, nPtr q2] 22)) (.mk 9 noText 0 [t, s]) (nPtr w.heap.size)) := st_row (Nat.le_refl _) HZW.out (set1 wv w.heap.size _) (by simp) (Nat.le_trans HZ0.out ha2.size) (by rw [heap_set nb]; rfl) (NAts.cons n1' (NAts.cons n2' NAts.nil)) rfl #[nPtr q, nPtr q2] rfl (by simp [maxLen])
  clear hp2 ha2 HC2 nb hA hn2 n1' n2'; go_wp2_with fail; go_ret; exact ⟨⟨_, rfl, HN.out⟩, HP.out, HA.out⟩
 ) : G := h
theorem zrqem.zrcfX {G : Prop} (h : G := by
  clear hp1 ha HC hn c0 c1 c2 c3 cf cf0 cf3 hnl x1 xf
  cases hr : deepP c.l F.st d j with
  | out => rw [hr] at HQ2; exact absurd HQ2.out HO.out
  | bad er pl =>
   exact zcbh
  | ok s j2 =>
   have HC2 := hide (rstatement2_any HF.out wh d j _ hd hr.symm (by nofun) HP0.out); rw [hr] at HQ2; have hq : r = .ok (.mk 9 noText 0 [t, s]) j2 := unhide HQ2; subst hq; exact zrbb
 ) : G := h
theorem zrqem.zrctX {G : Prop} (h : G := by
  have HK2 := hide ((HK1.out.kind HLO.out 9).stepped HLT.out hl)
  cases hr : inParP c.l F d (i + 1) with
  | out => rw [hr] at HQ; exact absurd HQ.out HO.out
  | bad er pl =>
   exact zcak
  | ok t j =>
   have HC := hide (rhead_any HF.out _ d (i + 1) _ hd hr.symm (by nofun) HK2.out.ps); rw [hr] at HQ; have HQ2 : Hid (r = (deepP c.l F.st d j).bind fun s i2 => .ok (.mk 9 noText 0 [t, s]) i2) := unhide HQ; exact zrcf
 ) : G := h
end Go.Proofs.YtodmgaikhbmlnaaGreatDoor
