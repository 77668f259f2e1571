/-
  Parts of proofs that stand more than once.
-/
import Derived.Test.YtodmgaikhbmlnaaGreatDoorEc1
set_option maxRecDepth 100000
set_option maxHeartbeats 16000000
namespace Go.Proofs.YtodmgaikhbmlnaaGreatDoor
open Go.RowKit
theorem zrqb.zrdsX {G : Prop} (h : G := by
  cases htw : rtw (kidT t 1) true with
  | true =>
   exact zbeh
  | false =>
   exact zrcr
 ) : G := h
theorem zrqc.zrcwX {G : Prop} (h : G := by
  go_loopw [75] (fun j wr => ∃ m : Nat, m ≤ k ∧ j = .int .i64 m ∧ (true = true → namedB (PS.take m) x = false) ∧ Below w.heap.size w wr) (fun j _ => k - (intOf j).toNat)
  case atStart => exact ⟨0, Nat.zero_le _, rfl, fun _ => rfl, HB5.out⟩
  case round =>
   obtain ⟨m, hm, rfl, hnm, hbm⟩ := hrel; have HNM := hide hnm; have HBM := hide hbm; clear hnm; have q1m := keepC hbm HQ0.out; have hqm2 := cell_lt q1m
   by_cases hlm : m < k
   ·
    obtain ⟨g3, cap3, q3, hv, hg3, hck30, hn3⟩ := HPR.out.cell m (by omega); simp only [Value.slice.injEq] at hv; obtain ⟨hv, hvy, hvx⟩ := hv; cases hv; clear hvy hvx; have hck3 := keepC hbm hck30
    have hgl3 := cell_lt hck3; obtain ⟨_, _, q30, _⟩ := hn3.cells; have q3c := keepC hbm q30; have hql3 := cell_lt q3c; have hmi : (m : Int) < (k : Int) := by omega
    have HTM : Hid (namedB (PS.take (m + 1)) x = (namedB (PS.take m) x || decide ((PS[m]'(by omega)).tx = x))) := by show _ = _; rw [List.take_succ_eq_append_getElem (by omega)]; unfold namedB; rw [List.any_append]; simp
    have HMK : Hid ((PS[m]'(by omega)).tx = x → namedB (PS.take k) x = true) := fun h => List.any_eq_true.2 ⟨PS[m]'(by omega), List.mem_take_iff_getElem.2 ⟨m, by omega, rfl⟩, decide_eq_true h⟩
    generalize (PS[m]'(by omega)).tx = y at q3c HTM HMK
    clear hn3 hbm hck30 q30
    by_cases hxy : y = x
    ·
     have hRe := unhide HIN 9 (by rw [HPF.out, unhide HMK hxy]; rfl)
     subst hRe; subst hxy; go_wp2_with fail
     go_region
     go_wp2_with fail; go_ret; exact ⟨rfl, HBM.out.drew⟩
    ·
     have HN2 : Hid (true = true → namedB (PS.take (m + 1)) x = false) := fun _ => by rw [HTM.out, unhide HNM rfl, decide_eq_false hxy]; rfl
     have hne := tl_ne hxy; clear hxy HTM HMK; go_wp2_with fail
     go_region
     go_wp2_with fail
     go_roundw
     case rel => exact ⟨m + 1, by omega, by go_num, HN2.out, HBM.out.drew⟩
     case measure => simp [intOf]; omega
   ·
    have hmm : m = k := by omega
    subst hmm; have HN3 := hide (unhide HNX (by rw [HPF.out, unhide HNM rfl]; rfl))
    exact zbgc
 ) : G := h
theorem zrqc.zrciX {G : Prop} (h : G := by
  refine wh 5 (.bool true) hS0 ?_; refine wq1 6 fun K hK => ?_; go_simp; refine cm (unhide HSQ _) ?_; rintro e w5 ⟨rfl, rfl⟩; refine hK.out _ _ hS0 (fun _ => ?_); clear hK K; refine wpAnyH_done (by kernel_rfl) ?_ _
  go_simp; obtain ⟨w5b, hw5b⟩ : ∃ w5b, w5b = wr.drew := ⟨_, rfl⟩; rw [← hw5b]; have HB5 : Hid (Below w.heap.size w w5b) := by rw [hw5b]; exact HBK.out.drew
  clear hS0 eS hw5b; go_wp2_with fail; go_ret; exact ⟨rfl, HB5.out⟩
 ) : G := h
theorem zrqc.zrdbX {G : Prop} (h : G := by
  have HPF : Hid (parF true PS k = match nmE true (PS[k]).tx with | some e => some e | none => if true && namedB (PS.take k) (PS[k]).tx then some 9 else none) := by show _ = _; unfold parF; rw [HTA.out]; rfl
  have HQ0 := hide q10; have HSQ := hide (fun W => special_any true (PS[k]).tx W); have HIN := hide (fun e (he : parF true PS k = some e) => unhide HPX e (firstE_hit HNO.out he PS.length hlt))
  have HNX := hide (fun (he : parF true PS k = none) => firstE_step HNO.out he)
  generalize (PS[k]).tx = x at HPF HQ0 HSQ q1c
  clear hn hbk HTA q10 hck0; go_wp2_with fail
  cases hsx : (true && isSp x) with
  | true =>
   rw [hsx] at HSQ; have hRe := unhide HIN 5 (by rw [HPF.out]; unfold nmE; rw [hsx]; rfl)
   subst hRe; exact zrci
  | false =>
   rw [hsx] at HSQ; replace HPF : Hid (parF true PS k = if true && namedB (PS.take k) x then some 9 else none) := by have h := unhide HPF; unfold nmE at h; rw [hsx] at h; exact h
   clear hsx; have hS0 : Below wr.heap.size wr wr.drew := (Below.refl _ _).drew; have eS := keepC HBK.out HCS.out; refine wp_region_held (S := fun X => Below wr.heap.size wr X) (by kernel_rfl) ?_
   change wpAnyH _ _ _ _ _ _ _ _ (World.drew _); refine wh 0 spV hS0 ?_ (hy := Or.inl ⟨by kernel_rfl, fun X hX => by have hh := keepC hX eS; go_simp⟩)
   refine wh 1 (nPtr q2) hS0 ?_; refine wh 2 (nPtr q2) hS0 ?_; refine wh 3 (.pointer (some ⟨q2, 1, none⟩)) hS0 ?_
   refine wh 4 (.string x) hS0 ?_ (hy := Or.inl ⟨by kernel_rfl, fun X hX => by have hh := keepC hX q1c; go_simp⟩)
   refine wh 5 (.bool true) hS0 ?_; exact zrcw
 ) : G := h
theorem zrqc.zrcbX {G : Prop} (h : G := by
  have x3 := keepC HB1.out HC3.out; have xq := keepC HB1.out HCQ0.out; have xp := keepC HB1.out HP3.out; go_wp2_with fail; clear x3 xq xp
  go_loopw [51] (fun j wr => ∃ k : Nat, k ≤ PS.length ∧ j = .int .i64 k ∧ firstE (parF true PS) k = none ∧ Below w.heap.size w wr) (fun j _ => PS.length - (intOf j).toNat)
  case atStart => exact ⟨0, Nat.zero_le _, rfl, rfl, HB1.out⟩
  case round =>
   obtain ⟨k, hk, rfl, hno, hbk⟩ := hrel; have HNO := hide hno; have HBK := hide hbk; clear hno
   by_cases hlt : k < PS.length
   ·
    exact zrdb
   ·
    have hkk : k = PS.length := by omega
    subst hkk; replace HLX := hide (unhide HLX HNO.out); replace HLE := hide (unhide HLE HNO.out); have HC := hide (unhide HLT wr hbk); have x3 := keepC hbk HC3.out; have xq := keepC hbk HQ1C.out; clear hbk HNO HPX
    go_wp2_with fail; clear x3 xq; exact fn_lets_t
 ) : G := h
theorem zrqc.zrbrX {G : Prop} (h : G := by
  refine wh 5 (.bool true) hS0 ?_; exact zrcb
 ) : G := h
theorem zrqd.zrcwX {G : Prop} (h : G := by
  go_loopw [75] (fun j wr => ∃ m : Nat, m ≤ k ∧ j = .int .i64 m ∧ (false = true → namedB (PS.take m) x = false) ∧ Below w.heap.size w wr) (fun j _ => k - (intOf j).toNat)
  case atStart => exact ⟨0, Nat.zero_le _, rfl, fun _ => rfl, HB5.out⟩
  case round =>
   obtain ⟨m, hm, rfl, hnm, hbm⟩ := hrel; have HNM := hide hnm; have HBM := hide hbm; clear hnm; have q1m := keepC hbm HQ0.out; have hqm2 := cell_lt q1m
   by_cases hlm : m < k
   ·
    obtain ⟨g3, cap3, q3, hv, hg3, hck30, hn3⟩ := HPR.out.cell m (by omega); simp only [Value.slice.injEq] at hv; obtain ⟨hv, hvy, hvx⟩ := hv; cases hv; clear hvy hvx; have hck3 := keepC hbm hck30
    have hgl3 := cell_lt hck3; obtain ⟨_, _, q30, _⟩ := hn3.cells; have q3c := keepC hbm q30; have hql3 := cell_lt q3c; have hmi : (m : Int) < (k : Int) := by omega
    have HTM : Hid (namedB (PS.take (m + 1)) x = (namedB (PS.take m) x || decide ((PS[m]'(by omega)).tx = x))) := by show _ = _; rw [List.take_succ_eq_append_getElem (by omega)]; unfold namedB; rw [List.any_append]; simp
    have HMK : Hid ((PS[m]'(by omega)).tx = x → namedB (PS.take k) x = true) := fun h => List.any_eq_true.2 ⟨PS[m]'(by omega), List.mem_take_iff_getElem.2 ⟨m, by omega, rfl⟩, decide_eq_true h⟩
    generalize (PS[m]'(by omega)).tx = y at q3c HTM HMK
    clear hn3 hbm hck30 q30; clear HTM HMK; go_wp2_with fail
    go_region
    go_wp2_with fail
    go_roundw
    case rel => exact ⟨m + 1, by omega, by go_num, fun h => absurd h (by decide), HBM.out.drew⟩
    case measure => simp [intOf]; omega
   ·
    have hmm : m = k := by omega
    subst hmm; have HN3 := hide (unhide HNX HPF.out); exact zbgc
 ) : G := h
theorem zrqd.zrciX {G : Prop} (h : G := by
  refine wh 5 (.bool false) hS0 ?_; exact zrcw
 ) : G := h
theorem zrqd.zrdbX {G : Prop} (h : G := by
  have HPF : Hid (parF false PS k = match nmE false (PS[k]).tx with | some e => some e | none => if false && namedB (PS.take k) (PS[k]).tx then some 9 else none) := by show _ = _; unfold parF; rw [HTA.out]; rfl
  have HQ0 := hide q10; have HSQ := hide (fun W => special_any false (PS[k]).tx W); have HIN := hide (fun e (he : parF false PS k = some e) => unhide HPX e (firstE_hit HNO.out he PS.length hlt))
  have HNX := hide (fun (he : parF false PS k = none) => firstE_step HNO.out he)
  generalize (PS[k]).tx = x at HPF HQ0 HSQ q1c
  clear hn hbk HTA q10 hck0; go_wp2_with fail; have hsx : (false && isSp x) = false := rfl; rw [hsx] at HSQ; exact zrci
 ) : G := h
theorem zrqd.zrcbX {G : Prop} (h : G := by
  have x3 := keepC HB1.out HC3.out; have xq := keepC HB1.out HCQ0.out; have xp := keepC HB1.out HP3.out; go_wp2_with fail; clear x3 xq xp
  go_loopw [51] (fun j wr => ∃ k : Nat, k ≤ PS.length ∧ j = .int .i64 k ∧ firstE (parF false PS) k = none ∧ Below w.heap.size w wr) (fun j _ => PS.length - (intOf j).toNat)
  case atStart => exact ⟨0, Nat.zero_le _, rfl, rfl, HB1.out⟩
  case round =>
   obtain ⟨k, hk, rfl, hno, hbk⟩ := hrel; have HNO := hide hno; have HBK := hide hbk; clear hno
   by_cases hlt : k < PS.length
   ·
    exact zrdb
   ·
    have hkk : k = PS.length := by omega
    subst hkk; replace HLX := hide (unhide HLX HNO.out); replace HLE := hide (unhide HLE HNO.out); have HC := hide (unhide HLT wr hbk); have x3 := keepC hbk HC3.out; have xq := keepC hbk HQ1C.out; clear hbk HNO HPX
    go_wp2_with fail; clear x3 xq; exact fn_lets_f
 ) : G := h
theorem zrqd.zrbrX {G : Prop} (h : G := by
  refine wh 5 (.bool false) hS0 ?_; exact zrcb
 ) : G := h
theorem zrqe.zrclX {G : Prop} (h : G := by
  obtain ⟨hk2, hs0, hs1⟩ := (hsh.need2).2.2 (by unfold isFunT; rcases hkd with h | h <;> rw [h] <;> rfl)
  obtain ⟨g, cap, q0, hv, hg, hcq0, hn0⟩ := hrow.cell 0 (by omega); simp only [Value.slice.injEq] at hv; obtain ⟨rfl, _, rfl⟩ := hv; obtain ⟨gz, capz, q1, hv, hgz, hcq1, hn1⟩ := hrow.cell 1 (by omega)
  simp only [Value.slice.injEq] at hv; obtain ⟨hv, hvy, hvx⟩ := hv; cases hv; clear hvy hvx; rw [← kidT_eq t 0 (by omega)] at hn0; rw [← kidT_eq t 1 (by omega)] at hn1
  have hc1 : (kidT t 1).count < t.count := by rw [kidT_eq t 1 (by omega)]; have := counts_le t.kids 1 (by omega); omega
  have hc0 : (kidT t 0).count < t.count := by rw [kidT_eq t 0 (by omega)]; have := counts_le t.kids 0 (by omega); omega
  obtain ⟨hql, _, _, up, p3, hrp⟩ := hn0.cells; obtain ⟨pa, pc, rfl⟩ := hrp.form; obtain ⟨hql1, _, f1, ub, f3, hrb⟩ := hn1.cells; obtain ⟨ba, bc, rfl⟩ := hrb.form; rw [hk2] at c3; have HC3 := hide c3
  have HQ1C := hide hcq1; have HF3 := hide f3; have hen0 := eaEn88; have hen1 := eaEn89; have HB0 := hide (Below.refl w.heap.size w); have hpc : t.kids.length ≤ 1500 := by omega
  have hkt : (kidT t 1).kids.length ≤ 1500 := by have h1 := counts_len (kidT t 1).kids; have h2 : (kidT t 1).count = 1 + Tr.counts (kidT t 1).kids := (by cases kidT t 1 with | mk kd tx nn ks => exact count_mk _ _ _ _); omega
  have hPl : (kidT t 0).kids.length ≤ 1500 := by have h1 := counts_len (kidT t 0).kids; have h2 : (kidT t 0).count = 1 + Tr.counts (kidT t 0).kids := (by cases kidT t 0 with | mk kd tx nn ks => exact count_mk _ _ _ _); omega
  have hLl : (letsT (kidT t 1)).length ≤ 1500 := Nat.le_trans (List.length_filter_le _ _) hkt; have HSB := hide (sbody_any (kidT t 1) q1 w hn1)
  have HLT := hide (fun W (hb : Below w.heap.size w W) => rlets_any (kidT t 1) q1 w W hn1 hb (by omega)); have HPA := hide (fun W (hb : Below w.heap.size w W) => rparams2_any t p W (hnt.later hb) (by omega) hc)
  have HTW := hide (fun W (hb : Below w.heap.size w W) => rtwice_any (kidT t 1) q1 true W (hn1.later hb) (by omega)); have HGBB := hide (fun z => goon ih (kidT t 1) hs1 (by omega) (by omega) hrb hS z true)
  have HPR := hide hrp; have hcapP := nrow_le hrp; have HCQ0 := hide hcq0; have HP3 := hide p3; obtain ⟨R, hR⟩ : ∃ R, R = rck (d + 1) t s i := ⟨_, rfl⟩; rw [← hR]
  have hfu : isFunT t = true := by unfold isFunT; rcases hkd with h | h <;> rw [h] <;> rfl
  obtain ⟨s2, hs2⟩ : ∃ s2, s2 = sR t s := ⟨_, rfl⟩; have hs2e : s2 = (s || decide ((kidT t 1).tx = tStrict)) := by rw [hs2]; unfold sR; rw [hfu]; rfl
  rw [rck, ← hs2] at hR; have hir : i2 t i = true := by unfold i2; rw [hfu]; rfl
  have hpr : partsE t = (kidT t 1).kids := by unfold partsE; rw [hfu]; rfl
  rw [hir, hpr] at hR; unfold rwrT at hR; rw [if_pos hfu] at hR; unfold fnE letE at hR
  have hOl : (onceL ((kidT t 0).kids.map Tr.tx)).length ≤ 90000 := by have := once_len ((kidT t 0).kids.map Tr.tx); rw [List.length_map] at this; omega
  have HSP := hide (fun W => special_any s2 t.tx W); have HGB := hide (unhide HGBB s2); clear HGBB hs2 hir hpr hfu hrow hn0 hn1 hrp hrb hs0 hs1 hnt c1 f1; obtain ⟨PS, hPS⟩ : ∃ PS, PS = (kidT t 0).kids := ⟨_, rfl⟩
  rw [← hPS] at hR HPR HPA hcapP hPl hOl HP3 p3; clear hPS
  generalize t.tx = tx at hR HSP HC1
  have HRR := hide hR; have hk1 : (1 : Int) < 2 := by decide
  clear hR ih ht hsh hS htc; subst hs; rw [Bool.true_or] at hs2e; subst hs2e
  rcases hkd with h | h
  all_goals
   rw [h] at c0; clear h; exact fn_head_t
 ) : G := h
theorem zrqf.zrclX {G : Prop} (h : G := by
  obtain ⟨hk2, hs0, hs1⟩ := (hsh.need2).2.2 (by unfold isFunT; rcases hkd with h | h <;> rw [h] <;> rfl)
  obtain ⟨g, cap, q0, hv, hg, hcq0, hn0⟩ := hrow.cell 0 (by omega); simp only [Value.slice.injEq] at hv; obtain ⟨rfl, _, rfl⟩ := hv; obtain ⟨gz, capz, q1, hv, hgz, hcq1, hn1⟩ := hrow.cell 1 (by omega)
  simp only [Value.slice.injEq] at hv; obtain ⟨hv, hvy, hvx⟩ := hv; cases hv; clear hvy hvx; rw [← kidT_eq t 0 (by omega)] at hn0; rw [← kidT_eq t 1 (by omega)] at hn1
  have hc1 : (kidT t 1).count < t.count := by rw [kidT_eq t 1 (by omega)]; have := counts_le t.kids 1 (by omega); omega
  have hc0 : (kidT t 0).count < t.count := by rw [kidT_eq t 0 (by omega)]; have := counts_le t.kids 0 (by omega); omega
  obtain ⟨hql, _, _, up, p3, hrp⟩ := hn0.cells; obtain ⟨pa, pc, rfl⟩ := hrp.form; obtain ⟨hql1, _, f1, ub, f3, hrb⟩ := hn1.cells; obtain ⟨ba, bc, rfl⟩ := hrb.form; rw [hk2] at c3; have HC3 := hide c3
  have HQ1C := hide hcq1; have HF3 := hide f3; have hen0 := eaEn88; have hen1 := eaEn89; have HB0 := hide (Below.refl w.heap.size w); have hpc : t.kids.length ≤ 1500 := by omega
  have hkt : (kidT t 1).kids.length ≤ 1500 := by have h1 := counts_len (kidT t 1).kids; have h2 : (kidT t 1).count = 1 + Tr.counts (kidT t 1).kids := (by cases kidT t 1 with | mk kd tx nn ks => exact count_mk _ _ _ _); omega
  have hPl : (kidT t 0).kids.length ≤ 1500 := by have h1 := counts_len (kidT t 0).kids; have h2 : (kidT t 0).count = 1 + Tr.counts (kidT t 0).kids := (by cases kidT t 0 with | mk kd tx nn ks => exact count_mk _ _ _ _); omega
  have hLl : (letsT (kidT t 1)).length ≤ 1500 := Nat.le_trans (List.length_filter_le _ _) hkt; have HSB := hide (sbody_any (kidT t 1) q1 w hn1)
  have HLT := hide (fun W (hb : Below w.heap.size w W) => rlets_any (kidT t 1) q1 w W hn1 hb (by omega)); have HPA := hide (fun W (hb : Below w.heap.size w W) => rparams2_any t p W (hnt.later hb) (by omega) hc)
  have HTW := hide (fun W (hb : Below w.heap.size w W) => rtwice_any (kidT t 1) q1 true W (hn1.later hb) (by omega)); have HGBB := hide (fun z => goon ih (kidT t 1) hs1 (by omega) (by omega) hrb hS z true)
  have HPR := hide hrp; have hcapP := nrow_le hrp; have HCQ0 := hide hcq0; have HP3 := hide p3; obtain ⟨R, hR⟩ : ∃ R, R = rck (d + 1) t s i := ⟨_, rfl⟩; rw [← hR]
  have hfu : isFunT t = true := by unfold isFunT; rcases hkd with h | h <;> rw [h] <;> rfl
  obtain ⟨s2, hs2⟩ : ∃ s2, s2 = sR t s := ⟨_, rfl⟩; have hs2e : s2 = (s || decide ((kidT t 1).tx = tStrict)) := by rw [hs2]; unfold sR; rw [hfu]; rfl
  rw [rck, ← hs2] at hR; have hir : i2 t i = true := by unfold i2; rw [hfu]; rfl
  have hpr : partsE t = (kidT t 1).kids := by unfold partsE; rw [hfu]; rfl
  rw [hir, hpr] at hR; unfold rwrT at hR; rw [if_pos hfu] at hR; unfold fnE letE at hR
  have hOl : (onceL ((kidT t 0).kids.map Tr.tx)).length ≤ 90000 := by have := once_len ((kidT t 0).kids.map Tr.tx); rw [List.length_map] at this; omega
  have HSP := hide (fun W => special_any s2 t.tx W); have HGB := hide (unhide HGBB s2); clear HGBB hs2 hir hpr hfu hrow hn0 hn1 hrp hrb hs0 hs1 hnt c1 f1; obtain ⟨PS, hPS⟩ : ∃ PS, PS = (kidT t 0).kids := ⟨_, rfl⟩
  rw [← hPS] at hR HPR HPA hcapP hPl hOl HP3 p3; clear hPS
  generalize t.tx = tx at hR HSP HC1
  have HRR := hide hR; have hk1 : (1 : Int) < 2 := by decide
  clear hR ih ht hsh hS htc; subst hs; rw [Bool.false_or] at hs2e; rw [← hs2e] at HSB; rw [decide_eq_true hb] at hs2e; subst hs2e; clear hb
  rcases hkd with h | h
  all_goals
   rw [h] at c0; clear h; exact fn_head_ft
 ) : G := h
theorem zrqg.zrclX {G : Prop} (h : G := by
  obtain ⟨hk2, hs0, hs1⟩ := (hsh.need2).2.2 (by unfold isFunT; rcases hkd with h | h <;> rw [h] <;> rfl)
  obtain ⟨g, cap, q0, hv, hg, hcq0, hn0⟩ := hrow.cell 0 (by omega); simp only [Value.slice.injEq] at hv; obtain ⟨rfl, _, rfl⟩ := hv; obtain ⟨gz, capz, q1, hv, hgz, hcq1, hn1⟩ := hrow.cell 1 (by omega)
  simp only [Value.slice.injEq] at hv; obtain ⟨hv, hvy, hvx⟩ := hv; cases hv; clear hvy hvx; rw [← kidT_eq t 0 (by omega)] at hn0; rw [← kidT_eq t 1 (by omega)] at hn1
  have hc1 : (kidT t 1).count < t.count := by rw [kidT_eq t 1 (by omega)]; have := counts_le t.kids 1 (by omega); omega
  have hc0 : (kidT t 0).count < t.count := by rw [kidT_eq t 0 (by omega)]; have := counts_le t.kids 0 (by omega); omega
  obtain ⟨hql, _, _, up, p3, hrp⟩ := hn0.cells; obtain ⟨pa, pc, rfl⟩ := hrp.form; obtain ⟨hql1, _, f1, ub, f3, hrb⟩ := hn1.cells; obtain ⟨ba, bc, rfl⟩ := hrb.form; rw [hk2] at c3; have HC3 := hide c3
  have HQ1C := hide hcq1; have HF3 := hide f3; have hen0 := eaEn88; have hen1 := eaEn89; have HB0 := hide (Below.refl w.heap.size w); have hpc : t.kids.length ≤ 1500 := by omega
  have hkt : (kidT t 1).kids.length ≤ 1500 := by have h1 := counts_len (kidT t 1).kids; have h2 : (kidT t 1).count = 1 + Tr.counts (kidT t 1).kids := (by cases kidT t 1 with | mk kd tx nn ks => exact count_mk _ _ _ _); omega
  have hPl : (kidT t 0).kids.length ≤ 1500 := by have h1 := counts_len (kidT t 0).kids; have h2 : (kidT t 0).count = 1 + Tr.counts (kidT t 0).kids := (by cases kidT t 0 with | mk kd tx nn ks => exact count_mk _ _ _ _); omega
  have hLl : (letsT (kidT t 1)).length ≤ 1500 := Nat.le_trans (List.length_filter_le _ _) hkt; have HSB := hide (sbody_any (kidT t 1) q1 w hn1)
  have HLT := hide (fun W (hb : Below w.heap.size w W) => rlets_any (kidT t 1) q1 w W hn1 hb (by omega)); have HPA := hide (fun W (hb : Below w.heap.size w W) => rparams2_any t p W (hnt.later hb) (by omega) hc)
  have HTW := hide (fun W (hb : Below w.heap.size w W) => rtwice_any (kidT t 1) q1 true W (hn1.later hb) (by omega)); have HGBB := hide (fun z => goon ih (kidT t 1) hs1 (by omega) (by omega) hrb hS z true)
  have HPR := hide hrp; have hcapP := nrow_le hrp; have HCQ0 := hide hcq0; have HP3 := hide p3; obtain ⟨R, hR⟩ : ∃ R, R = rck (d + 1) t s i := ⟨_, rfl⟩; rw [← hR]
  have hfu : isFunT t = true := by unfold isFunT; rcases hkd with h | h <;> rw [h] <;> rfl
  obtain ⟨s2, hs2⟩ : ∃ s2, s2 = sR t s := ⟨_, rfl⟩; have hs2e : s2 = (s || decide ((kidT t 1).tx = tStrict)) := by rw [hs2]; unfold sR; rw [hfu]; rfl
  rw [rck, ← hs2] at hR; have hir : i2 t i = true := by unfold i2; rw [hfu]; rfl
  have hpr : partsE t = (kidT t 1).kids := by unfold partsE; rw [hfu]; rfl
  rw [hir, hpr] at hR; unfold rwrT at hR; rw [if_pos hfu] at hR; unfold fnE letE at hR
  have hOl : (onceL ((kidT t 0).kids.map Tr.tx)).length ≤ 90000 := by have := once_len ((kidT t 0).kids.map Tr.tx); rw [List.length_map] at this; omega
  have HSP := hide (fun W => special_any s2 t.tx W); have HGB := hide (unhide HGBB s2); clear HGBB hs2 hir hpr hfu hrow hn0 hn1 hrp hrb hs0 hs1 hnt c1 f1; obtain ⟨PS, hPS⟩ : ∃ PS, PS = (kidT t 0).kids := ⟨_, rfl⟩
  rw [← hPS] at hR HPR HPA hcapP hPl hOl HP3 p3; clear hPS
  generalize t.tx = tx at hR HSP HC1
  have HRR := hide hR; have hk1 : (1 : Int) < 2 := by decide
  clear hR ih ht hsh hS htc; subst hs; rw [Bool.false_or] at hs2e; rw [← hs2e] at HSB; rw [decide_eq_false hb] at hs2e; subst hs2e; clear hb
  rcases hkd with h | h
  all_goals
   rw [h] at c0; clear h; exact fn_head_ff
 ) : G := h
theorem zrqh.zryX {G : Prop} (h : G := by
  have hrw : rwrT t s i = nmE s t.tx := by unfold rwrT; rw [hfu, if_neg (by decide), if_neg (by omega), if_pos hkd]
  rw [hrw] at hR; unfold nmE at hR; have HSP := hide (fun W => special_any s t.tx W)
  generalize t.tx = tx at hR HSP HC1
  clear hsr hir hpr hrw hfu c1 c3
  cases hsp : (s && isSp tx) with
  | true =>
   rw [hsp] at HSP hR; clear hsp; replace hR : R = some 5 := hR; subst hR; clear ih hsh ht hnt hS hrow htc
   rcases hkd with h | h | h <;> rw [h] at c0 <;> clear h
   all_goals
    go_enter Tryz.func90, Tryz.ntmps90; go_wp2_with fail; have hS0 : Below w.heap.size w w.drew := (Below.refl _ _).drew; have eS := keepC HB0.out HCS.out; have e1 := keepC HB0.out HC1.out
    refine wp_region_held (S := fun X => Below w.heap.size w X) (by kernel_rfl) ?_; change wpAnyH _ _ _ _ _ _ _ _ (World.drew _)
    refine wh 0 spV hS0 ?_ (hy := Or.inl ⟨by kernel_rfl, fun X hX => by have hh := keepC hX eS; go_simp⟩)
    refine wh 1 (nPtr p) hS0 ?_; refine wh 2 (nPtr p) hS0 ?_; refine wh 3 (.pointer (some ⟨p, 1, none⟩)) hS0 ?_
    refine wh 4 (.string tx) hS0 ?_ (hy := Or.inl ⟨by kernel_rfl, fun X hX => by have hh := keepC hX e1; go_simp⟩)
    refine wh 5 (.bool s) hS0 ?_; refine wq1 6 fun K hK => ?_; go_simp; refine cm (unhide HSP _) ?_; rintro e w5 ⟨rfl, rfl⟩; refine hK.out _ _ hS0 (fun _ => ?_); clear hK K; refine wpAnyH_done (by kernel_rfl) ?_ _; go_simp
    obtain ⟨w1, hw1⟩ : ∃ w1, w1 = w.drew := ⟨_, rfl⟩; rw [← hw1]; have HB1 : Hid (Below w.heap.size w w1) := by rw [hw1]; exact HB0.out.drew
    clear hS0 eS e1 hw1; go_wp2_with fail; go_ret; exact ⟨rfl, HB1.out⟩
  | false =>
   rw [hsp] at HSP hR; clear hsp; replace hR := show R = _ from hR
   simp only [Bool.false_eq_true, if_false] at hR; rw [← hR] at HGO; clear hR; clear ih hsh ht hnt hS hrow htc
   rcases hkd with h | h | h <;> rw [h] at c0 <;> clear h
   all_goals
    go_enter Tryz.func90, Tryz.ntmps90; go_wp2_with fail; have hS0 : Below w.heap.size w w.drew := (Below.refl _ _).drew; have eS := keepC HB0.out HCS.out; have e1 := keepC HB0.out HC1.out
    refine wp_region_held (S := fun X => Below w.heap.size w X) (by kernel_rfl) ?_; change wpAnyH _ _ _ _ _ _ _ _ (World.drew _)
    refine wh 0 spV hS0 ?_ (hy := Or.inl ⟨by kernel_rfl, fun X hX => by have hh := keepC hX eS; go_simp⟩)
    refine wh 1 (nPtr p) hS0 ?_; refine wh 2 (nPtr p) hS0 ?_; refine wh 3 (.pointer (some ⟨p, 1, none⟩)) hS0 ?_
    refine wh 4 (.string tx) hS0 ?_ (hy := Or.inl ⟨by kernel_rfl, fun X hX => by have hh := keepC hX e1; go_simp⟩)
    refine wh 5 (.bool s) hS0 ?_; refine wq1 6 fun K hK => ?_; go_simp; refine cm (unhide HSP _) ?_; rintro e w5 ⟨rfl, rfl⟩; refine hK.out _ _ hS0 (fun _ => ?_); clear hK K; refine wpAnyH_done (by kernel_rfl) ?_ _; go_simp
    obtain ⟨w1, hw1⟩ : ∃ w1, w1 = w.drew := ⟨_, rfl⟩; rw [← hw1]; have HB1 : Hid (Below w.heap.size w w1) := by rw [hw1]; exact HB0.out.drew
    clear hS0 eS e1 hw1; go_wp2_with fail; have hS0 : Below w1.heap.size w1 w1.drew := (Below.refl _ _).drew; have eA := keepC HB1.out HCA.out; have e3 := keepC HB1.out HC3.out
    refine wp_region_held (S := fun X => Below w1.heap.size w1 X) (by kernel_rfl) ?_; change wpAnyH _ _ _ _ _ _ _ _ (World.drew _)
    refine wh 0 (alV bW) hS0 ?_ (hy := Or.inl ⟨by kernel_rfl, fun X hX => by have hh := keepC hX eA; go_simp⟩)
    refine wh 1 (nPtr p) hS0 ?_; refine wh 2 (nPtr p) hS0 ?_; refine wh 3 (.pointer (some ⟨p, 3, none⟩)) hS0 ?_
    refine wh 4 (.slice ua t.kids.length uc) hS0 ?_ (hy := Or.inl ⟨by kernel_rfl, fun X hX => by have hh := keepC hX e3; go_simp⟩)
    refine wh 5 (.bool s) hS0 ?_; refine wh 6 (.bool i) hS0 ?_; refine wq1 7 fun K hK => ?_; go_simp; refine cm (HGO.out _ (HB1.out.trans (hS0.mono HB1.out.size))) ?_; rintro e w9 ⟨rfl, hb9⟩
    have hS9 : Below w1.heap.size w1 w9 := hS0.trans (hb9.mono (Nat.le_refl _)); refine hK.out _ _ hS9 (fun _ => ?_); clear hK K; refine wh 8 (eI R) hS9 ?_; refine wpAnyH_done (by kernel_rfl) ?_ _; go_simp
    have HB9 := hide (HB1.out.trans (hS9.mono HB1.out.size)); clear hS0 eA e3 hb9 hS9; go_wp2_with fail; go_ret; exact ⟨rfl, HB9.out⟩
 ) : G := h
theorem zrqh.zriX {G : Prop} (h : G := by
  have hfu : isFunT t = false := by unfold isFunT; rcases hkd with h | h | h <;> rw [h] <;> rfl
  exact zry
 ) : G := h
theorem zrqi.zrbeX {G : Prop} (h : G := by
  refine wh 4 (.slice ua t.kids.length uc) hS0 ?_ (hy := Or.inl ⟨by kernel_rfl, fun X hX => by have hh := keepC hX e3; go_simp⟩)
  refine wh 5 (.bool s) hS0 ?_; refine wh 6 (.bool i) hS0 ?_; refine wq1 7 fun K hK => ?_; go_simp; refine cm (HGO.out _ (HB1.out.trans (hS0.mono HB1.out.size))) ?_; rintro e w9 ⟨rfl, hb9⟩
  have hS9 : Below w1.heap.size w1 w9 := hS0.trans (hb9.mono (Nat.le_refl _)); refine hK.out _ _ hS9 (fun _ => ?_); clear hK K; refine wh 8 (eI R) hS9 ?_; exact zbcl
 ) : G := h
theorem zrqi.zryX {G : Prop} (h : G := by
  have hrw : rwrT t s i = oE (rtw t false) 9 := by unfold rwrT; rw [hfu, if_neg (by decide), if_pos hkd]
  rw [hrw] at hR; unfold oE at hR; have HC := hide (rtwice_any t p false w hnt hc); rw [hkd] at c0; clear hsr hir hpr hrw hfu c1 c3 hkd
  cases hsp : rtw t false with
  | true =>
   rw [hsp] at HC hR; clear hsp; replace hR : R = some 9 := hR; subst hR; clear ih hsh ht hnt hS hrow htc; go_enter Tryz.func90, Tryz.ntmps90; go_wp2_with fail; refine cm HC.out ?_; rintro e w1 ⟨rfl, hb1⟩
   have HB1 := hide hb1; clear HC hb1; go_wp2_with fail; go_ret; exact ⟨rfl, HB1.out⟩
  | false =>
   rw [hsp] at HC hR; clear hsp; replace hR := show R = _ from hR
   simp only [Bool.false_eq_true, if_false] at hR; rw [← hR] at HGO; clear hR; clear ih hsh ht hnt hS hrow htc; go_enter Tryz.func90, Tryz.ntmps90; go_wp2_with fail; refine cm HC.out ?_; rintro e w1 ⟨rfl, hb1⟩
   have HB1 := hide hb1; clear HC hb1; go_wp2_with fail; have hS0 : Below w1.heap.size w1 w1.drew := (Below.refl _ _).drew; have eA := keepC HB1.out HCA.out; have e3 := keepC HB1.out HC3.out
   refine wp_region_held (S := fun X => Below w1.heap.size w1 X) (by kernel_rfl) ?_; exact zrbe
 ) : G := h
theorem zrqi.zriX {G : Prop} (h : G := by
  exact zeag
 ) : G := h
theorem zrqj.zrbeX {G : Prop} (h : G := by
  refine wh 4 (.slice ua t.kids.length uc) hS0 ?_ (hy := Or.inl ⟨by kernel_rfl, fun X hX => by have hh := keepC hX e3; go_simp⟩)
  refine wh 5 (.bool s) hS0 ?_; refine wh 6 (.bool true) hS0 ?_; exact zbbm
 ) : G := h
theorem zrqj.zrcuX {G : Prop} (h : G := by
  exact zrbe
 ) : G := h
theorem zrqj.zryX {G : Prop} (h : G := by
  have hrw : rwrT t s i = (if i then none else some 6) := by unfold rwrT; rw [hfu, hkd]; rfl
  rw [hrw] at hR; rw [hkd] at c0; clear hsr hir hpr hrw hfu c1 c3 hkd
  cases i with
  | true =>
   replace hR := show R = _ from hR
   simp only [if_true] at hR; rw [← hR] at HGO; clear hR; clear ih hsh ht hnt hS hrow htc; exact zrcu
  | false =>
   replace hR : R = some 6 := hR; subst hR; exact zbeu
 ) : G := h
theorem zrqj.zriX {G : Prop} (h : G := by
  exact zeag
 ) : G := h
theorem zrqk.zrbeX {G : Prop} (h : G := by
  refine wh 4 (.slice ua t.kids.length uc) hS0 ?_ (hy := Or.inl ⟨by kernel_rfl, fun X hX => by have hh := keepC hX e3; go_simp⟩)
  refine wh 5 (.bool s) hS0 ?_; refine wh 6 (.bool i) hS0 ?_; exact zbbm
 ) : G := h
theorem zrqk.zrcuX {G : Prop} (h : G := by
  exact zrbe
 ) : G := h
theorem zrqk.zryX {G : Prop} (h : G := by
  have hrw : rwrT t s i = none := by unfold rwrT; rw [hfu, if_neg (by decide), if_neg hno.1, if_neg (by omega), if_neg (by omega), if_neg (by omega), if_neg (by omega), if_neg (by omega), if_neg (by omega)]
  rw [hrw] at hR; replace hR := show R = _ from hR
  simp only at hR; rw [← hR] at HGO; obtain ⟨n6, n5, n37, n2, n3, n4, n13, n7, n8, n9, n10, n24, n34⟩ := hno; have b6 : (t.kd == 6) = false := beq_false_of_ne n6; have b5 : (t.kd == 5) = false := beq_false_of_ne n5
  have b37 : (t.kd == 37) = false := beq_false_of_ne n37; have b2 : (t.kd == 2) = false := beq_false_of_ne n2; have b3 : (t.kd == 3) = false := beq_false_of_ne n3; have b4 : (t.kd == 4) = false := beq_false_of_ne n4
  have b13 : (t.kd == 13) = false := beq_false_of_ne n13; have b7 : (t.kd == 7) = false := beq_false_of_ne n7; have b8 : (t.kd == 8) = false := beq_false_of_ne n8; have b9 : (t.kd == 9) = false := beq_false_of_ne n9
  have b10 : (t.kd == 10) = false := beq_false_of_ne n10; have b24 : (t.kd == 24) = false := beq_false_of_ne n24; have b34 : (t.kd == 34) = false := beq_false_of_ne n34
  clear hR hsr hir hpr hrw hfu c1 c3 n6 n5 n37 n2 n3 n4 n13 n7 n8 n9 n10 n24 n34; clear ih hsh ht hnt hS hrow htc
  generalize t.kd = kd at c0 b6 b5 b37 b2 b3 b4 b13 b7 b8 b9 b10 b24 b34
  exact zrcu
 ) : G := h
theorem zrqk.zriX {G : Prop} (h : G := by
  have hfu : isFunT t = false := by unfold isFunT; rw [beq_false_of_ne hno.2.1, beq_false_of_ne hno.2.2.1]; rfl
  exact zry
 ) : G := h
theorem zrql.zrbeX {G : Prop} (h : G := by
  refine wh 4 (.slice (some ⟨g, 0, none⟩) t.kids.length uc) hS0 ?_ (hy := Or.inl ⟨by kernel_rfl, fun X hX => by have hh := keepC hX e3; go_simp⟩)
  refine wh 5 (.bool s) hS0 ?_; refine wh 6 (.bool i) hS0 ?_; refine wq1 7 fun K hK => ?_; go_simp; refine cm (HGO.out _ (HB4.out.trans (hS0.mono HB4.out.size))) ?_; rintro e w9 ⟨rfl, hb9⟩
  have hS9 : Below w6.heap.size w6 w9 := hS0.trans (hb9.mono (Nat.le_refl _)); refine hK.out _ _ hS9 (fun _ => ?_); clear hK K; refine wh 8 (eI R) hS9 ?_; refine wpAnyH_done (by kernel_rfl) ?_ _; go_simp
  have HB9 := hide (HB4.out.trans (hS9.mono HB4.out.size)); exact zcbq
 ) : G := h
theorem zrql.zrcyX {G : Prop} (h : G := by
  refine wh 7 (nPtr p) hS0 ?_; refine wh 8 (nPtr p) hS0 ?_; refine wh 9 (.pointer (some ⟨p, 1, none⟩)) hS0 ?_; refine wh 10 (.string tx) hS0 ?_ (hy := Or.inl ⟨by kernel_rfl, fun X hX => by have hh := keepC hX e1; go_simp⟩)
  refine wq1 6 fun K hK => ?_; go_simp; refine cm (HNM.out _ (HB1.out.trans (hS0.mono HB1.out.size))) ?_; rintro e w4 ⟨⟨u4, rfl, hr4⟩, hb4⟩; obtain ⟨a4, c4, rfl⟩ := srow_form hr4
  have hS4 : Below w1.heap.size w1 w4 := hS0.trans (hb4.mono (Nat.le_refl _)); refine hK.out _ _ hS4 (fun _ => ?_); clear hK K; have HH := hide (rhas_any NM tx _ w4 hr4 hnl); clear hr4; refine wq1 11 fun K hK => ?_
  go_simp; refine cm HH.out ?_; rintro e w6 ⟨rfl, hw6⟩; subst hw6; refine hK.out _ _ hS4 (fun _ => ?_); clear hK K HH; refine wpAnyH_done (by kernel_rfl) ?_ _; go_simp
  have HB4 := hide (HB1.out.trans (hS4.mono HB1.out.size)); clear hS0 hS4 hb4 e1 e3 eq
  cases hh : hasB NM tx with
  | true =>
   rw [hh] at hR; clear hh; replace hR : R = some 9 := hR; subst hR; go_wp2_with fail; go_ret; exact ⟨rfl, HB4.out⟩
  | false =>
   rw [hh] at hR; clear hh; replace hR := show R = _ from hR
   simp only [Bool.false_eq_true, if_false] at hR; rw [← hR] at HGO; clear hR; go_wp2_with fail; have hS0 : Below w6.heap.size w6 w6.drew := (Below.refl _ _).drew; have eA := keepC HB4.out HCA.out
   have e3 := keepC HB4.out HC3.out; refine wp_region_held (S := fun X => Below w6.heap.size w6 X) (by kernel_rfl) ?_; exact zrbe
 ) : G := h
theorem zrql.zrcbX {G : Prop} (h : G := by
  go_wp2_with fail; have hS0 : Below w1.heap.size w1 w1.drew := (Below.refl _ _).drew; have e1 := keepC HB1.out HC1.out; have e3 := keepC HB1.out HC3.out; have eq := keepC HB1.out HCQ.out
  refine wp_region_held (S := fun X => Below w1.heap.size w1 X) (by kernel_rfl) ?_; exact zrcy
 ) : G := h
theorem zrql.zrbrX {G : Prop} (h : G := by
  refine wh 5 (.bool s) hS0 ?_; exact zcay
 ) : G := h
theorem zrql.zryX {G : Prop} (h : G := by
  have hrw : rwrT t s i = catchE t s := by unfold rwrT; rw [hfu, hkd]; rfl
  rw [hrw] at hR; unfold catchE nmE at hR; have HSP := hide (fun W => special_any s t.tx W); have hk0c : (kidT t 0).count ≤ 1500 := by rw [kidT_eq t 0 (by omega)]; have := counts_le t.kids 0 (by omega); omega
  have HNM := hide (fun W (hb : Below w.heap.size w W) => rnames_any (kidT t 0) q false W (hn.later hb) (by omega)); have hnl : (namesT (kidT t 0) false).length ≤ 90000 := by have := names_len1 (kidT t 0) false; omega
  rw [hkd] at c0
  generalize t.tx = tx at hR HSP HC1
  generalize namesT (kidT t 0) false = NM at hR HNM hnl
  have HCQ := hide hcq; have hL0 : (0 : Int) < (t.kids.length : Int) := by omega
  clear hsr hir hpr hrw hfu c1 c3 hkd hn hk0c d0 d1 hcq
  cases hsp : (s && isSp tx) with
  | true =>
   rw [hsp] at HSP hR; clear hsp; replace hR : R = some 5 := hR; subst hR; clear ih hsh ht hnt hS hrow htc; go_enter Tryz.func90, Tryz.ntmps90; go_wp2_with fail; exact zrbr
  | false =>
   rw [hsp] at HSP hR; clear hsp; simp only [Bool.false_eq_true, if_false] at hR; clear ih hsh ht hnt hS hrow htc; go_enter Tryz.func90, Tryz.ntmps90; go_wp2_with fail
   have hS0 : Below w.heap.size w w.drew := (Below.refl _ _).drew; have eS := keepC HB0.out HCS.out; have e1 := keepC HB0.out HC1.out; refine wp_region_held (S := fun X => Below w.heap.size w X) (by kernel_rfl) ?_
   change wpAnyH _ _ _ _ _ _ _ _ (World.drew _); refine wh 0 spV hS0 ?_ (hy := Or.inl ⟨by kernel_rfl, fun X hX => by have hh := keepC hX eS; go_simp⟩)
   refine wh 1 (nPtr p) hS0 ?_; refine wh 2 (nPtr p) hS0 ?_; refine wh 3 (.pointer (some ⟨p, 1, none⟩)) hS0 ?_; refine wh 4 (.string tx) hS0 ?_ (hy := Or.inl ⟨by kernel_rfl, fun X hX => by have hh := keepC hX e1; go_simp⟩)
   refine wh 5 (.bool s) hS0 ?_; exact zrcb
 ) : G := h
theorem zrql.zrbxX {G : Prop} (h : G := by
  exact zeag
 ) : G := h
theorem zrql.zriX {G : Prop} (h : G := by
  have hk1 : 1 ≤ t.kids.length := (hsh.need2).2.1 (Or.inl hkd); exact zrbx
 ) : G := h
theorem zrqm.zrbeX {G : Prop} (h : G := by
  refine wh 4 (.slice (some ⟨g, 0, none⟩) t.kids.length uc) hS0 ?_ (hy := Or.inl ⟨by kernel_rfl, fun X hX => by have hh := keepC hX e3; go_simp⟩)
  refine wh 5 (.bool false) hS0 ?_; refine wh 6 (.bool i) hS0 ?_; exact zbbm
 ) : G := h
theorem zrqm.zrcuX {G : Prop} (h : G := by
  exact zrbe
 ) : G := h
theorem zrqm.zryX {G : Prop} (h : G := by
  have hrw : rwrT t s i = (if s && (kidT t 0).kd == 23 then some 1 else none) := by unfold rwrT; rw [hfu, hkd]; rfl
  rw [hrw] at hR; rw [hkd] at c0; have hL0 : (0 : Int) < (t.kids.length : Int) := by omega
  clear hsr hir hpr hrw hfu c1 hkd hn d1
  generalize (kidT t 0).kd = k0 at hR d0
  cases s with
  | false =>
   replace hR := show R = _ from hR
   simp only [Bool.false_and, Bool.false_eq_true, if_false] at hR; rw [← hR] at HGO; clear hR; clear ih hsh ht hnt hS hrow htc; exact zrcu
  | true =>
   cases hq : (k0 == 23) with
   | true =>
    rw [hq] at hR; replace hR : R = some 1 := hR; subst hR; exact zbeu
   | false =>
    rw [hq] at hR; replace hR := show R = _ from hR
    simp only [Bool.and_false, Bool.false_eq_true, if_false] at hR; rw [← hR] at HGO; clear hR; clear ih hsh ht hnt hS hrow htc; go_enter Tryz.func90, Tryz.ntmps90; go_wp2_with fail
    have hS0 : Below w.heap.size w w.drew := (Below.refl _ _).drew; have eA := keepC HB0.out HCA.out; have e3 := keepC HB0.out HC3.out; refine wp_region_held (S := fun X => Below w.heap.size w X) (by kernel_rfl) ?_
    change wpAnyH _ _ _ _ _ _ _ _ (World.drew _); refine wh 0 (alV bW) hS0 ?_ (hy := Or.inl ⟨by kernel_rfl, fun X hX => by have hh := keepC hX eA; go_simp⟩)
    refine wh 1 (nPtr p) hS0 ?_; refine wh 2 (nPtr p) hS0 ?_; refine wh 3 (.pointer (some ⟨p, 3, none⟩)) hS0 ?_
    refine wh 4 (.slice (some ⟨g, 0, none⟩) t.kids.length uc) hS0 ?_ (hy := Or.inl ⟨by kernel_rfl, fun X hX => by have hh := keepC hX e3; go_simp⟩)
    refine wh 5 (.bool true) hS0 ?_; refine wh 6 (.bool i) hS0 ?_; exact zbbm
 ) : G := h
theorem zrqm.zrbxX {G : Prop} (h : G := by
  exact zeag
 ) : G := h
theorem zrqm.zriX {G : Prop} (h : G := by
  have hk1 : 1 ≤ t.kids.length := (hsh.need2).2.1 (Or.inr (Or.inr hkd)); exact zrbx
 ) : G := h
end Go.Proofs.YtodmgaikhbmlnaaGreatDoor
