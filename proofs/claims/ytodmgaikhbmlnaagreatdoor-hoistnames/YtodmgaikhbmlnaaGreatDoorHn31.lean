/-
  The document's Names.
-/
import Derived.Test.YtodmgaikhbmlnaaGreatDoorHn30
set_option maxRecDepth 100000
set_option maxHeartbeats 16000000
namespace Go.Proofs.YtodmgaikhbmlnaaGreatDoor
open Go.RowKit
theorem ptr_ones (ps : List Nat) : ∀ u ∈ ps.map nPtr, u.oneCell' = true := by
 intro u hu
 obtain ⟨p, _, rfl⟩ := List.mem_map.1 hu
 rfl
theorem rnames_any (t : Tr) (p : Nat) (body : Bool) (w : World) (h : NTr w t p) (hc : t.count ≤ 20000) :
  Calls Tryz.prog 36 #[nPtr p, .bool body] w fun e w' => (∃ u, e = .returned u ∧ SRow w.heap.size w' u (zgz t body)) ∧ Below w.heap.size w w' := by
 obtain ⟨i0, hi0, hz0, hz1, hz2⟩ := info_parts zkw
 have htc : t.count = 1 + Tr.counts t.kids := by cases t with | mk kd tx nn ks => exact zqy _ _ _ _
 have hkl : t.kids.length ≤ 20000 := by have := zvz t.kids; omega
 have hfl := fns_len t
 have hll := lets_len t
 have hvl := zm2 t
 have HN0 := qh h
 obtain ⟨V, hV⟩ : ∃ V, V = if body then zdk t else [] := ⟨_, rfl⟩
 have hVl : V.length ≤ 20000 := by
  rw [hV]
  split
  ·
   omega
  ·
   simp
 have hnm : zgz t body = (((fnsT t) ++ (zm0 t)).map Tr.tx).foldl addB V := by
  unfold zgz; rw [← hV, List.append_assoc, zb8, List.foldl_append, List.map_append]; have h1 : V.foldl addB [] = V := by
   rw [hV]
   split
   ·
    exact once_once _
   ·
    rfl
  rw [h1]
 rw [hnm]
 have HV := qh hV
 have HC0 := qh (rvars_any t p w h hc)
 clear h hnm htc hvl hc hV
 obtain ⟨NL, hNL⟩ : ∃ NL, NL = fnsT t ++ zm0 t := ⟨_, rfl⟩
 rw [← hNL]
 have hnl : NL.length ≤ 40000 := by rw [hNL, List.length_append]; omega
 have HNL := qh hNL
 clear hNL
 cases body with
 | true =>
  have hV2 : V = zdk t := zzz HV; rw [← hV2] at HC0; clear hV2 HV; go_enter Tryz.func36, Tryz.ntmps36; go_wp2_with fail; refine cm HC0.out ?_; rintro e W1 ⟨⟨u1, rfl, hr1⟩, hb1⟩; obtain ⟨A1, C1, rfl⟩ := zz7 hr1
  have HV1 := qh hr1; have HB1 := qh hb1; clear HC0 hr1 hb1; have HC := qh (zn3 t p w W1 HN0.out HB1.out hkl); go_wp2_with fail; refine cm HC.out ?_; rintro e w2 ⟨⟨u2, rfl, hr2⟩, hb2⟩
  have HB2 := qh (HB1.out.trans (hb2.mono HB1.out.size)); have HV2 := qh (SRow.later HV1.out hb2); have HF2 := qh hr2; have HS2 := qh hb2.size; obtain ⟨a2, c2, rfl⟩ := hr2.form
  have HC2 := qh (rlets_any t p w w2 HN0.out HB2.out hkl); clear HC hr2 hb2; go_wp2_with fail; refine cm HC2.out ?_; rintro e w3 ⟨⟨u3, rfl, hr3⟩, hb3⟩; have HB3 := qh (HB2.out.trans (hb3.mono HB2.out.size))
  have HV3 := qh (SRow.later HV2.out hb3); have HS3 := qh (Nat.le_trans HS2.out hb3.size); obtain ⟨a3, c3, rfl⟩ := hr3.form; obtain ⟨ps, hf1, hf2⟩ := HF2.out.later hb3; obtain ⟨qs, hg1, hg2⟩ := hr3
  have hpl := NAts.length _ _ hf2; have hql := NAts.length _ _ hg2; rw [hpl] at hf1; rw [hql] at hg1; have HF3 := qh hf1; have HG3 := qh hg1; have HNS := qh (NAts.append hg2 _ _ hf2)
  have HPQ : Hid (ps.length = (fnsT t).length ∧ qs.length = (zm0 t).length) := ⟨hpl, hql⟩; clear HC2 hb3 hf1 hf2 hg1 hg2 hpl hql HF2
  go_wp2_with (at_builtin; refine zjj rfl _ _ 36 rfl W1.heap.size _ 22 i0 (.pointer none) 8 Tryz.underlying36 hi0 hz0 hz1 hz2 rfl _ _ _ rfl HF3.out _ _ _ rfl HG3.out (ptr_ones qs) (by unfold maxLen; omega) (by omega) HS3.out ?_)
  intro v4 w4 hown4 hgr4; have hob := fun k hk => (zxj HF3.out k hk).2; have HB4 := qh (HB3.out.grown hgr4 HB3.out.size (fun k hk => Nat.le_trans HB1.out.size (hob k hk))); have HRW : Hid (NRow0 w 0 w4 v4 NL) := by
   have h1 : NRow0 w W1.heap.size w4 v4 (fnsT t ++ zm0 t) := by
    refine ⟨ps ++ qs, ?_, HNS.out⟩; rw [List.length_append, List.map_append, HPQ.out.1, HPQ.out.2]; exact hown4
   rw [HNL.out]; exact h1.low (Nat.zero_le _)
  have HV4 : Hid (SRow w.heap.size w4 (.slice A1 V.length C1) V) := zj4 (I := fun x => x < W1.heap.size) (fun x hx hl => hgr4.block x hl (fun e => absurd (hob x e.symm) (by have h1 : x < W1.heap.size := hx; omega))) (fun g hg => (zxj HV1.out g hg).1) HV3.out
  obtain ⟨a4, c4, rfl⟩ := HRW.out.form; clear hown4 hgr4 hob HV3 HV2 HNS HPQ HF3 HG3 HS2 HS3; go_wp2_with fail
  go_loopw [5, 17] (fun o j wr => ∃ k : Nat, k ≤ NL.length ∧ j = .int .i64 k ∧ SRow w.heap.size wr o (((NL.take k).map Tr.tx).foldl addB V) ∧ Below w4.heap.size w4 wr) (fun _ j _ => NL.length - (intOf j).toNat)
  case atStart => exact ⟨0, Nat.zero_le _, rfl, HV4.out, Below.refl _ _⟩
  case round =>
   obtain ⟨k, hk, rfl, hown, hbel⟩ := hrel; have HOWN := qh hown; have HB5 := qh hbel; obtain ⟨oa, oc, rfl⟩ := zz7 hown; clear hown hbel; have HBW := qh (HB4.out.trans (HB5.out.mono HB4.out.size))
   by_cases hlt : k < NL.length
   ·
    obtain ⟨g, cap, q, hv, hg, hcc, hn⟩ := ((HRW.out.later HB5.out).row HBW.out).cell k hlt; simp only [Value.slice.injEq] at hv; obtain ⟨rfl, _, rfl⟩ := hv; obtain ⟨hql, _, q1, _⟩ := hn.cells
    have hki : (k : Int) < (NL.length : Int) := by omega
    have hfl2 : (((NL.take k).map Tr.tx).foldl addB V).length ≤ 70000 := by
     have h1 := zmz ((NL.take k).map Tr.tx) V; rw [List.length_map, List.length_take] at h1; omega
    have HTK : Hid (((NL.take (k + 1)).map Tr.tx).foldl addB V = addB (((NL.take k).map Tr.tx).foldl addB V) (NL[k]).tx) := by
     show _ = _
     rw [List.take_succ_eq_append_getElem hlt, List.map_append, List.foldl_append]; rfl
    have HC := qh (zm6 (((NL.take k).map Tr.tx).foldl addB V) (NL[k]).tx _ wr HOWN.out (by omega) HBW.out.size)
    generalize (NL[k]).tx = y at q1 HC HTK
    generalize ((NL.take k).map Tr.tx).foldl addB V = M at HC HTK HOWN hfl2
    clear hn; go_wp2_with fail; refine cm HC.out ?_; rintro e w6 ⟨⟨u6, rfl, hr6⟩, hb6⟩; obtain ⟨a6, c6, rfl⟩ := zz7 hr6; have HR6 := qh hr6; have HB6 := qh (HB5.out.trans (hb6.mono HB5.out.size))
    clear HC hr6 hb6; go_wp2_with fail
    go_roundw
    case rel => exact ⟨k + 1, by omega, by go_num, by rw [HTK.out]; exact HR6.out, HB6.out⟩
    case measure => simp [intOf]; omega
   ·
    have hii : k = NL.length := by omega
    subst hii; go_wp2_with fail; go_ret; refine ⟨⟨_, rfl, ?_⟩, HBW.out⟩; have h := zzz HOWN; rw [List.take_length] at h; rw [List.take_length]; exact h
 | false =>
  have HV1 : Hid (SRow w.heap.size w (.slice none V.length 0) V) := by
   have h1 : V = [] := zzz HV; rw [h1]; exact zfj _ _
  have hV0 : V.length = 0 := by
   have h1 : V = [] := zzz HV; rw [h1]; rfl
  have HB1 : Hid (Below w.heap.size w w) := Below.refl _ _; clear HC0 HV; go_enter Tryz.func36, Tryz.ntmps36; have HC := qh (zn3 t p w w HN0.out HB1.out hkl); go_wp2_with fail; refine cm HC.out ?_
  rintro e w2 ⟨⟨u2, rfl, hr2⟩, hb2⟩; have HB2 := qh (HB1.out.trans (hb2.mono HB1.out.size)); have HV2 := qh (SRow.later HV1.out hb2); have HF2 := qh hr2; have HS2 := qh hb2.size; obtain ⟨a2, c2, rfl⟩ := hr2.form
  have HC2 := qh (rlets_any t p w w2 HN0.out HB2.out hkl); clear HC hr2 hb2; go_wp2_with fail; refine cm HC2.out ?_; rintro e w3 ⟨⟨u3, rfl, hr3⟩, hb3⟩; have HB3 := qh (HB2.out.trans (hb3.mono HB2.out.size))
  have HV3 := qh (SRow.later HV2.out hb3); have HS3 := qh (Nat.le_trans HS2.out hb3.size); obtain ⟨a3, c3, rfl⟩ := hr3.form; obtain ⟨ps, hf1, hf2⟩ := HF2.out.later hb3; obtain ⟨qs, hg1, hg2⟩ := hr3
  have hpl := NAts.length _ _ hf2; have hql := NAts.length _ _ hg2; rw [hpl] at hf1; rw [hql] at hg1; have HF3 := qh hf1; have HG3 := qh hg1; have HNS := qh (NAts.append hg2 _ _ hf2)
  have HPQ : Hid (ps.length = (fnsT t).length ∧ qs.length = (zm0 t).length) := ⟨hpl, hql⟩; clear HC2 hb3 hf1 hf2 hg1 hg2 hpl hql HF2
  go_wp2_with (at_builtin; refine zjj rfl _ _ 36 rfl w.heap.size _ 22 i0 (.pointer none) 8 Tryz.underlying36 hi0 hz0 hz1 hz2 rfl _ _ _ rfl HF3.out _ _ _ rfl HG3.out (ptr_ones qs) (by unfold maxLen; omega) (by omega) HS3.out ?_)
  intro v4 w4 hown4 hgr4; have hob := fun k hk => (zxj HF3.out k hk).2; have HB4 := qh (HB3.out.grown hgr4 HB3.out.size (fun k hk => Nat.le_trans HB1.out.size (hob k hk))); have HRW : Hid (NRow0 w 0 w4 v4 NL) := by
   have h1 : NRow0 w w.heap.size w4 v4 (fnsT t ++ zm0 t) := by
    refine ⟨ps ++ qs, ?_, HNS.out⟩; rw [List.length_append, List.map_append, HPQ.out.1, HPQ.out.2]; exact hown4
   rw [HNL.out]; exact h1.low (Nat.zero_le _)
  have HV4 : Hid (SRow w.heap.size w4 (.slice none V.length 0) V) := zj4 (I := fun x => x < w.heap.size) (fun x hx hl => hgr4.block x hl (fun e => absurd (hob x e.symm) (by have h1 : x < w.heap.size := hx; omega))) (fun g hg => (zxj HV1.out g hg).1) HV3.out
  obtain ⟨a4, c4, rfl⟩ := HRW.out.form; clear hown4 hgr4 hob HV3 HV2 HNS HPQ HF3 HG3 HS2 HS3; go_wp2_with fail
  go_loopw [5, 17] (fun o j wr => ∃ k : Nat, k ≤ NL.length ∧ j = .int .i64 k ∧ SRow w.heap.size wr o (((NL.take k).map Tr.tx).foldl addB V) ∧ Below w4.heap.size w4 wr) (fun _ j _ => NL.length - (intOf j).toNat)
  case atStart => exact ⟨0, Nat.zero_le _, rfl, by have h := zzz HV4; rw [hV0] at h; exact h, Below.refl _ _⟩
  case round =>
   obtain ⟨k, hk, rfl, hown, hbel⟩ := hrel; have HOWN := qh hown; have HB5 := qh hbel; obtain ⟨oa, oc, rfl⟩ := zz7 hown; clear hown hbel; have HBW := qh (HB4.out.trans (HB5.out.mono HB4.out.size))
   by_cases hlt : k < NL.length
   ·
    obtain ⟨g, cap, q, hv, hg, hcc, hn⟩ := ((HRW.out.later HB5.out).row HBW.out).cell k hlt; simp only [Value.slice.injEq] at hv; obtain ⟨rfl, _, rfl⟩ := hv; obtain ⟨hql, _, q1, _⟩ := hn.cells
    have hki : (k : Int) < (NL.length : Int) := by omega
    have hfl2 : (((NL.take k).map Tr.tx).foldl addB V).length ≤ 70000 := by
     have h1 := zmz ((NL.take k).map Tr.tx) V; rw [List.length_map, List.length_take] at h1; omega
    have HTK : Hid (((NL.take (k + 1)).map Tr.tx).foldl addB V = addB (((NL.take k).map Tr.tx).foldl addB V) (NL[k]).tx) := by
     show _ = _
     rw [List.take_succ_eq_append_getElem hlt, List.map_append, List.foldl_append]; rfl
    have HC := qh (zm6 (((NL.take k).map Tr.tx).foldl addB V) (NL[k]).tx _ wr HOWN.out (by omega) HBW.out.size)
    generalize (NL[k]).tx = y at q1 HC HTK
    generalize ((NL.take k).map Tr.tx).foldl addB V = M at HC HTK HOWN hfl2
    clear hn; go_wp2_with fail; refine cm HC.out ?_; rintro e w6 ⟨⟨u6, rfl, hr6⟩, hb6⟩; obtain ⟨a6, c6, rfl⟩ := zz7 hr6; have HR6 := qh hr6; have HB6 := qh (HB5.out.trans (hb6.mono HB5.out.size))
    clear HC hr6 hb6; go_wp2_with fail
    go_roundw
    case rel => exact ⟨k + 1, by omega, by go_num, by rw [HTK.out]; exact HR6.out, HB6.out⟩
    case measure => simp [intOf]; omega
   ·
    have hii : k = NL.length := by omega
    subst hii; go_wp2_with fail; go_ret; refine ⟨⟨_, rfl, ?_⟩, HBW.out⟩; have h := zzz HOWN; rw [List.take_length] at h; rw [List.take_length]; exact h
theorem sameT_any {B C : Nat} (l : List ByteArray) (u v : Value) (w : World) (h1 : SRow B w u l) (h2 : SRow C w v l) (hl : l.length ≤ 90000) :
  Calls Tryz.prog 28 #[u, v] w fun e w' => e = .returned (.bool true) ∧ Below w.heap.size w w' := by
 obtain ⟨ua, uc, rfl⟩ := zz7 h1
 obtain ⟨va, vc, rfl⟩ := zz7 h2
 have HR1 := qh h1
 have HR2 := qh h2
 clear h1 h2
 go_enter Tryz.func28, Tryz.ntmps28
 go_wp2_with fail
 go_loopw [5] (fun j wr => ∃ k : Nat, k ≤ l.length ∧ j = .int .i64 k ∧ Below w.heap.size w wr) (fun j _ => l.length - (intOf j).toNat)
 case atStart => exact ⟨0, Nat.zero_le _, rfl, Below.refl _ _⟩
 case round =>
  obtain ⟨k, hk, rfl, hb⟩ := hrel; have HB := qh hb; clear hb
  by_cases hlt : k < l.length
  ·
   obtain ⟨g1, p1, hv, hg1, _, hc1⟩ := zbw (SRow.later HR1.out HB.out) k hlt; simp only [Value.slice.injEq] at hv; obtain ⟨rfl, _, rfl⟩ := hv
   obtain ⟨g2, p2, hv, hg2, _, hc2⟩ := zbw (SRow.later HR2.out HB.out) k hlt; simp only [Value.slice.injEq] at hv; obtain ⟨rfl, _, rfl⟩ := hv; have hki : (k : Int) < (l.length : Int) := by omega
   generalize l[k] = x at hc1 hc2
   go_wp2_with fail; refine wp_region_held (S := fun X => X = wr.drew) (by kernel_rfl) ?_; change wpAnyH _ _ _ _ _ _ _ _ (World.drew _); refine wh 0 (.slice (some ⟨g1, 0, none⟩) l.length uc) rfl ?_
   refine wh 1 (.int .i64 k) rfl ?_; refine wh 2 (.pointer (some ⟨g1, k, none⟩)) rfl ?_; refine wh 3 (.string x) rfl ?_ (hy := Or.inl ⟨by kernel_rfl, fun X hX => by cases hX; go_simp⟩)
   refine wh 4 (.slice (some ⟨g2, 0, none⟩) l.length vc) rfl ?_; refine wh 5 (.int .i64 k) rfl ?_; refine wh 6 (.pointer (some ⟨g2, k, none⟩)) rfl ?_
   refine wh 7 (.string x) rfl ?_ (hy := Or.inl ⟨by kernel_rfl, fun X hX => by cases hX; go_simp⟩)
   refine wh 8 (.bool false) rfl ?_; refine wpAnyH_done (by kernel_rfl) ?_ _; go_simp; go_wp2_with fail
   go_roundw
   case rel => exact ⟨k + 1, by omega, by go_num, HB.out.drew⟩
   case measure => simp [intOf]; omega
  ·
   have hkk : k = l.length := by omega
   subst hkk; go_wp2_with fail; go_ret; exact ⟨rfl, HB.out⟩
mutual
def allT : Tr → List Tr
 | .mk kd tx n ks => .mk kd tx n ks :: zfq ks
def zfq : List Tr → List Tr
 | [] => []
 | t :: ts => allT t ++ zfq ts
end
theorem allT_eq (t : Tr) : allT t = t :: zfq t.kids := by cases t with | mk kd tx n ks => rw [allT]; rfl
theorem allTs_app : ∀ a b : List Tr, zfq (a ++ b) = zfq a ++ zfq b
 | [], b => by simp [zfq]
 | t :: a, b => by simp [zfq, allTs_app a b]
theorem allTs_take (ts : List Tr) (k : Nat) (hk : k < ts.length) : zfq (ts.take (k + 1)) = zfq (ts.take k) ++ allT ts[k] := by
 rw [List.take_succ_eq_append_getElem hk, allTs_app]
 simp [zfq]
mutual
theorem allT_len : ∀ t : Tr, (allT t).length = t.count
 | .mk kd tx n ks => by rw [allT, List.length_cons, allTs_len ks, zqy]; omega
theorem allTs_len : ∀ ts : List Tr, (zfq ts).length = Tr.counts ts
 | [] => by simp [zfq, zq0]
 | t :: ts => by rw [zfq, List.length_append, allT_len t, allTs_len ts, zz9]
end
mutual
theorem allT_le : ∀ (t s : Tr), s ∈ allT t → s.count ≤ t.count
 | .mk kd tx n ks, s, h => by
  rw [allT] at h
  rcases List.mem_cons.1 h with rfl | h
  ·
   exact Nat.le_refl _
  ·
   have := allTs_le ks s h; rw [zqy]; omega
theorem allTs_le : ∀ (ts : List Tr) (s : Tr), s ∈ zfq ts → s.count ≤ Tr.counts ts
 | [], s, h => by rw [zfq] at h; cases h
 | t :: ts, s, h => by
  rw [zfq] at h; rw [zz9]
  rcases List.mem_append.1 h with h | h
  ·
   have := allT_le t s h; omega
  ·
   have := allTs_le ts s h; omega
end
theorem allN_any : ∀ (m : Nat) (t : Tr), t.count ≤ m → ∀ (p : Nat) (w0 w : World), NTr w0 t p → Below w0.heap.size w0 w → t.count ≤ 20000 →
  Calls Tryz.prog 27 #[nPtr p] w fun e w' => (∃ v, e = .returned v ∧ NRow0 w0 w.heap.size w' v (allT t)) ∧ Below w.heap.size w w' := by
 intro m
 induction m with
 | zero =>
  intro t ht
  cases t with
  | mk kd tx nn ks => rw [zqy] at ht; omega
 | succ m ih =>
  intro t ht p w0 w hnt hw hbd; obtain ⟨i0, hi0, hz0, hz1, hz2⟩ := info_parts zkw; have htc : t.count = 1 + Tr.counts t.kids := by cases t with | mk kd tx nn ks => exact zqy _ _ _ _
  obtain ⟨_, _, _, u, c30, hr⟩ := hnt.cells; have f3 := keepR hw c30; have hpl := cellR f3; obtain ⟨ua, uc, rfl⟩ := hr.form; have HR := qh hr; have HW := qh hw; have HNT := qh hnt
  have HIH : Hid (∀ (k : Nat) (hk : k < t.kids.length) (q : Nat) (W : World), NTr w0 t.kids[k] q → Below w0.heap.size w0 W → Calls Tryz.prog 27 #[nPtr q] W fun e w' => (∃ v, e = .returned v ∧ NRow0 w0 W.heap.size w' v (allT t.kids[k])) ∧ Below W.heap.size W w') := fun k hk q W hq hb => by
   have h1 := zb4 t.kids k hk; exact ih t.kids[k] (by omega) q w0 W hq hb (by omega)
  have hkl : t.kids.length ≤ 20000 := by have := zvz t.kids; omega
  have HLN : Hid (∀ k, (zfq (t.kids.take k)).length ≤ 20000) := fun k => by
   rw [allTs_len]; have h2 : Tr.counts t.kids = Tr.counts (t.kids.take k) + Tr.counts (t.kids.drop k) := by rw [← zk2, List.take_append_drop]
   omega
  have HKN : Hid (∀ k (hk : k < t.kids.length), (allT t.kids[k]).length ≤ 20000) := fun k hk => by
   rw [allT_len]; have h1 := zb4 t.kids k hk; omega
  rw [allT_eq]; clear hr ih ht hbd hnt hw c30 htc; go_enter Tryz.func27, Tryz.ntmps27; go_wp2_with fail
  go_loopw [3, 15] (fun o j wr => ∃ (k : Nat) (qs : List Nat), k ≤ t.kids.length ∧ j = .int .i64 k ∧ wr.ownsRow w.heap.size 22 1 o qs.length (qs.map nPtr) ∧ NAts (fun _ => True) w0 (t :: zfq (t.kids.take k)) qs ∧ Below w.heap.size w wr) (fun _ j _ => t.kids.length - (intOf j).toNat)
  case atStart => exact ⟨0, [p], Nat.zero_le _, rfl, World.ownsRow_lit w #[nPtr p] 1 qv (by decide) rfl, by simpa [zfq] using NAts.cons HNT.out NAts.nil, qb.alloc qv _⟩
  case round =>
   obtain ⟨k, qs, hk, rfl, hown, hns, hbel⟩ := hrel; have HOWN := qh hown; have HNS := qh hns; have HB := qh hbel; obtain ⟨oa, oc, rfl⟩ := zj2 hown; have hql : qs.length ≤ 20001 := by
    rw [NAts.length _ _ hns, List.length_cons]; have := zzz HLN k; omega
   clear hown hbel hns f3; have HBW := qh (HW.out.trans (HB.out.mono HW.out.size))
   by_cases hlt : k < t.kids.length
   ·
    obtain ⟨g, cap, q, hv, hg, hc0, hn0⟩ := HR.out.cell k hlt; simp only [Value.slice.injEq] at hv; obtain ⟨rfl, _, rfl⟩ := hv; have hc := keepR HBW.out hc0; have hgr := cellR hc
    have hki : (k : Int) < (t.kids.length : Int) := by omega
    have HC := qh (zzz HIH k hlt q wr hn0 HBW.out); have HTK := qh (allTs_take t.kids k hlt); have HKL := qh (zzz HKN k hlt)
    generalize allT t.kids[k] = A at HC HTK HKL
    clear hn0 hc0; go_wp2_with fail; refine cm HC.out ?_; rintro e w2 ⟨⟨v2, rfl, hr2⟩, hb2⟩; obtain ⟨a2, c2, rfl⟩ := hr2.form; obtain ⟨rs, hr1, hr3⟩ := hr2; have hrl := NAts.length _ _ hr3; rw [hrl] at hr1
    have HR2 := qh hr1; have HNA := qh (NAts.append hr3 _ _ HNS.out); have HRL := qh hrl; have HB2 := qh (HB.out.trans (hb2.mono HB.out.size))
    have HO2 : Hid (w2.ownsRow w.heap.size 22 1 (.slice oa qs.length oc) qs.length (qs.map nPtr)) := zj4 (I := fun _ => True) (Below.stay hb2) (fun _ _ => trivial) HOWN.out; have hal := zzz HKL
    clear HC hr1 hr3 hb2 hrl
    go_wp2_with (at_builtin; refine zjj rfl _ _ 36 rfl w.heap.size _ 22 i0 (.pointer none) 8 Tryz.underlying36 hi0 hz0 hz1 hz2 rfl _ _ _ rfl HO2.out _ _ _ rfl HR2.out (ptr_ones rs) (by unfold maxLen; omega) (by omega) HB2.out.size ?_)
    intro v4 w4 hown4 hgr4; have HB4 := qh (HB2.out.grown hgr4 HB2.out.size (fun k hk => (zxj HO2.out k hk).2)); have ho4 : w4.ownsRow w.heap.size 22 1 v4 (qs ++ rs).length ((qs ++ rs).map nPtr) := by
     rw [List.length_append, List.map_append, HRL.out]; exact hown4
    have HO4 := qh ho4; obtain ⟨a4, c4, rfl⟩ := zj2 ho4; clear hown4 hgr4 ho4; go_wp2_with fail
    go_roundw
    case rel => exact ⟨k + 1, qs ++ rs, by omega, by go_num, by simpa using HO4.out, by rw [HTK.out]; exact HNA.out, HB4.out⟩
    case measure => simp [intOf]; omega
   ·
    have hkk : k = t.kids.length := by omega
    subst hkk; go_wp2_with fail; go_ret; have h := zzz HNS; rw [List.take_length] at h; exact ⟨⟨_, rfl, qs, HOWN.out, h⟩, HB.out⟩
theorem kids_nil (w : World) : Calls Tryz.prog 64 #[.pointer none] w fun e w' => e = .returned (.slice none 0 0) ∧ w' = w := by
 go_enter Tryz.func64, Tryz.ntmps64
 go_wp2_with fail
 go_ret
 exact ⟨rfl, rfl⟩
theorem zpy (F : Nat) (w : World) : Calls Tryz.prog 68 #[.pointer none, fnV F] w fun e w' => e = .returned (.slice none 0 0) ∧ w' = w := by
 have HK := qh (kids_nil w)
 go_enter Tryz.func68, Tryz.ntmps68
 go_wp2_with fail
 refine cm HK.out ?_
 rintro e w1 ⟨rfl, rfl⟩
 clear HK
 go_wp2_with fail
 go_loopw [5, 11] (fun o j wr => o = .slice none 0 0 ∧ j = .int .i64 0 ∧ wr = w1) (fun _ _ _ => 0)
 case atStart => exact ⟨rfl, rfl, rfl⟩
 case round =>
  obtain ⟨rfl, rfl, rfl⟩ := hrel; go_wp2_with fail; go_ret; exact ⟨rfl, rfl⟩
theorem funcs_nil (w : World) : Calls Tryz.prog 31 #[.pointer none] w fun e w' => e = .returned (.slice none 0 0) ∧ w' = w := by
 have HC := qh (zpy 69 w)
 go_enter Tryz.func31, Tryz.ntmps31
 go_wp2_with fail
 refine cm HC.out ?_
 rintro e w1 ⟨rfl, rfl⟩
 clear HC
 go_wp2_with fail
 go_ret
 exact ⟨rfl, rfl⟩
theorem lets_nil (w : World) : Calls Tryz.prog 33 #[.pointer none] w fun e w' => e = .returned (.slice none 0 0) ∧ w' = w := by
 have HC := qh (zpy 71 w)
 go_enter Tryz.func33, Tryz.ntmps33
 go_wp2_with fail
 refine cm HC.out ?_
 rintro e w1 ⟨rfl, rfl⟩
 clear HC
 go_wp2_with fail
 go_ret
 exact ⟨rfl, rfl⟩
theorem vars_nil (w : World) : Calls Tryz.prog 29 #[.pointer none] w fun e w' => (∃ u, e = .returned u ∧ SRow w.heap.size w' u []) ∧ Below w.heap.size w w' := by
 obtain ⟨wa, hwa⟩ : ∃ wa, wa = w.alloc (.cells #[.slice none 0 0] 54) := ⟨_, rfl⟩
 have hba : Below w.heap.size w wa := by rw [hwa]; exact qb.alloc qv _
 have c0 : wa.cell? ⟨w.heap.size, 0, none⟩ = some (.slice none 0 0) := by rw [hwa, zqj (zqx _ _)]; rfl
 have hl := cellR c0
 have HK := qh (kids_nil wa)
 have HO := qh (zm8 (B := 0) [] (.slice none 0 0) wa (zfj _ _) (by simp))
 have HB := qh hba
 clear hba
 go_enter Tryz.func29, Tryz.ntmps29
 go_wp2_with fail
 rw [← hwa]
 refine cm HK.out ?_
 rintro e w1 ⟨rfl, rfl⟩
 clear HK hwa
 go_wp2_with fail
 go_loopw [11] (fun j wr => j = .int .i64 0 ∧ wr = w1) (fun _ _ => 0)
 case atStart => exact ⟨rfl, rfl⟩
 case round =>
  obtain ⟨rfl, rfl⟩ := hrel; go_wp2_with fail; refine cm HO.out ?_; rintro e w2 ⟨⟨u, rfl, hr⟩, hb⟩; obtain ⟨ua, uc, rfl⟩ := zz7 hr; have HR := qh (zd1 hr HB.out.size)
  have HB2 := qh (HB.out.trans (hb.mono HB.out.size)); clear HO hr hb; go_wp2_with fail; go_ret; exact ⟨⟨_, rfl, HR.out⟩, HB2.out⟩
theorem names_nil (w : World) : Calls Tryz.prog 35 #[.pointer none, .bool true] w fun e w' => (∃ u, e = .returned u ∧ SRow w.heap.size w' u []) ∧ Below w.heap.size w w' := by
 obtain ⟨i0, hi0, hz0, hz1, hz2⟩ := info_parts info9
 have HC := qh (vars_nil w)
 go_enter Tryz.func35, Tryz.ntmps35
 go_wp2_with fail
 refine cm HC.out ?_
 rintro e w1 ⟨⟨u1, rfl, hr1⟩, hb1⟩
 obtain ⟨a1, c1, rfl⟩ := zz7 hr1
 have HV1 := qh hr1
 have HB1 := qh hb1
 have HC1 := qh (funcs_nil w1)
 have HC2 := qh (zdw (B := 0) [] (.slice none 0 0) w1 (NRow.nil _ _) (by simp))
 clear HC hr1 hb1
 go_wp2_with fail
 refine cm HC1.out ?_
 rintro e w2 ⟨rfl, rfl⟩
 clear HC1
 go_wp2_with fail
 refine cm HC2.out ?_
 rintro e w3 ⟨⟨u3, rfl, hr3⟩, hb3⟩
 obtain ⟨a3, c3, rfl⟩ := zz7 hr3
 have HV3 := qh (SRow.later HV1.out hb3)
 have HR3 := qh hr3
 have HB3 := qh (HB1.out.trans (hb3.mono HB1.out.size))
 clear HC2 hr3 hb3
 go_wp2_with (at_builtin; refine zjj rfl _ _ 54 rfl w.heap.size _ 9 i0 (.string ByteArray.empty) 16 Tryz.underlying54 hi0 hz0 hz1 hz2 rfl _ _ _ rfl HV3.out _ _ _ rfl HR3.out (zbv []) (by unfold maxLen; simp) (by simp) HB3.out.size ?_)
 intro v4 w4 hown4 hgr4
 have hsr4 : SRow w.heap.size w4 v4 [] := hown4
 have HB4 := qh (HB3.out.grown hgr4 HB3.out.size (fun k hk => (zxj HV3.out k hk).2))
 obtain ⟨a4, c4, rfl⟩ := zz7 hsr4
 have HV4 := qh hsr4
 have HC1 := qh (lets_nil w4)
 have HC2 := qh (zdw (B := 0) [] (.slice none 0 0) w4 (NRow.nil _ _) (by simp))
 clear hown4 hgr4 hsr4
 go_wp2_with fail
 refine cm HC1.out ?_
 rintro e w5 ⟨rfl, rfl⟩
 clear HC1
 go_wp2_with fail
 refine cm HC2.out ?_
 rintro e w6 ⟨⟨u6, rfl, hr6⟩, hb6⟩
 obtain ⟨a6, c6, rfl⟩ := zz7 hr6
 have HV6 := qh (SRow.later HV4.out hb6)
 have HR6 := qh hr6
 have HB6 := qh (HB4.out.trans (hb6.mono HB4.out.size))
 clear HC2 hr6 hb6
 go_wp2_with (at_builtin; refine zjj rfl _ _ 54 rfl w.heap.size _ 9 i0 (.string ByteArray.empty) 16 Tryz.underlying54 hi0 hz0 hz1 hz2 rfl _ _ _ rfl HV6.out _ _ _ rfl HR6.out (zbv []) (by unfold maxLen; simp) (by simp) HB6.out.size ?_)
 intro v7 w7 hown7 hgr7
 have hsr7 : SRow w.heap.size w7 v7 [] := hown7
 have HB7 := qh (HB6.out.grown hgr7 HB6.out.size (fun k hk => (zxj HV6.out k hk).2))
 obtain ⟨a7, c7, rfl⟩ := zz7 hsr7
 have HC := qh (zm8 [] _ w7 hsr7 (by simp))
 clear hown7 hgr7 hsr7
 go_wp2_with fail
 refine cm HC.out ?_
 rintro e w8 ⟨⟨u8, rfl, hr8⟩, hb8⟩
 obtain ⟨a8, c8, rfl⟩ := zz7 hr8
 have HR8 := qh (zd1 hr8 HB7.out.size)
 have HB8 := qh (HB7.out.trans (hb8.mono HB7.out.size))
 clear HC hr8 hb8
 go_wp2_with fail
 go_ret
 exact ⟨⟨_, rfl, HR8.out⟩, HB8.out⟩
theorem hnames_none (s : ByteArray) (w : World) (h : Calls Tryz.prog 19 #[.string s] w (BoPost none w)) : Calls Tryz.prog 7 #[.string s] w fun e w' => e = .returned (.bool true) ∧ Below w.heap.size w w' := by
 have HC := qh h
 clear h
 go_enter Tryz.func7, Tryz.ntmps7
 go_wp2_with fail
 refine cm HC.out ?_
 rintro e w1 ⟨rfl, hb⟩
 have HB1 := qh hb
 clear hb HC
 go_wp2_with fail
 go_ret
 exact ⟨rfl, HB1.out⟩
theorem names_len (t : Tr) (body : Bool) : (zgz t body).length ≤ 3 * t.count := by
 have htc : t.count = 1 + Tr.counts t.kids := by cases t with | mk kd tx nn ks => exact zqy _ _ _ _
 have h1 := zp5 ((if body then zdk t else []) ++ (fnsT t).map Tr.tx ++ (zm0 t).map Tr.tx)
 have h2 := fns_len t
 have h3 := lets_len t
 have h4 := zm2 t
 have h5 := zvz t.kids
 have h6 : (if body then zdk t else []).length ≤ Tr.counts t.kids := by
  split
  ·
   exact h4
  ·
   simp
 show (zb8 _).length ≤ _
 simp only [List.length_append, List.length_map] at h1
 omega
theorem hnames_some (s : ByteArray) (t : Tr) (w : World) (hc : t.count ≤ 1500) (h : Calls Tryz.prog 19 #[.string s] w (BoPost (some t) w)) : Calls Tryz.prog 7 #[.string s] w fun e w' => e = .returned (.bool true) ∧ Below w.heap.size w w' := by
 have HC := qh h
 clear h
 go_enter Tryz.func7, Tryz.ntmps7
 go_wp2_with fail
 refine cm HC.out ?_
 rintro e w1 ⟨p, q, rfl, hnp, hnq, hb⟩
 have HB1 := qh hb
 have HNP := qh (NAt.nt hnp)
 have HNQ := qh (NAt.nt hnq)
 have HC1 := qh (allN_any t.count t qv p w1 w1 (NAt.nt hnp) qb (by omega))
 clear hb HC hnp hnq
 go_wp2_with fail
 refine cm HC1.out ?_
 rintro e w2 ⟨⟨u2, rfl, hr2⟩, hb2⟩
 obtain ⟨a2, c2, rfl⟩ := hr2.form
 have HR2 := qh hr2
 have HB2 := qh hb2
 have HC2 := qh (allN_any t.count t qv q w1 w2 HNQ.out hb2 (by omega))
 clear HC1 hr2 hb2
 go_wp2_with fail
 refine cm HC2.out ?_
 rintro e w3 ⟨⟨u3, rfl, hr3⟩, hb3⟩
 obtain ⟨a3, c3, rfl⟩ := hr3.form
 have HRA := qh (HR2.out.later hb3)
 have HRB := qh hr3
 have HB3 := qh (HB2.out.trans (hb3.mono HB2.out.size))
 have HBL := qh (allT_le t)
 have hal : (allT t).length ≤ 1500 := by rw [allT_len]; exact hc
 clear HC2 hr3 hb3 HR2
 generalize allT t = A at HRA HRB HBL hal
 go_wp2_with fail
 go_loopw [8] (fun j wr => ∃ k : Nat, k ≤ A.length ∧ j = .int .i64 k ∧ Below w3.heap.size w3 wr) (fun j _ => A.length - (intOf j).toNat)
 case atStart => exact ⟨0, Nat.zero_le _, rfl, Below.refl _ _⟩
 case round =>
  obtain ⟨k, hk, rfl, hbw⟩ := hrel; have HB := qh hbw; have HBW := qh (HB3.out.trans (hbw.mono HB3.out.size)); clear hbw
  by_cases hlt : k < A.length
  ·
   obtain ⟨g1, p1, x1, hv, hg1, hc1, hn1⟩ := ((HRA.out.later HB.out).row HBW.out).cell k hlt; simp only [Value.slice.injEq] at hv; obtain ⟨rfl, _, rfl⟩ := hv
   obtain ⟨g2, p2, x2, hv, hg2, hc2, hn2⟩ := ((HRB.out.later HB.out).row HBW.out).cell k hlt; simp only [Value.slice.injEq] at hv; obtain ⟨rfl, _, rfl⟩ := hv; have hki : (k : Int) < (A.length : Int) := by omega
   have hsc : (A[k]).count ≤ 1500 := Nat.le_trans (zzz HBL _ (List.getElem_mem _)) hc
   generalize A[k] = y at hn1 hn2 hsc
   have hyk : y.kids.length ≤ 1500 := by
    have h1 := zvz y.kids; have h2 : y.count = 1 + Tr.counts y.kids := by cases y with | mk kd tx nn ks => exact zqy _ _ _ _
    omega
   have HN1 := qh hn1; have HN2 := qh hn2; obtain ⟨hxl, k0, _, _⟩ := hn1.cells; clear hn1 hn2; go_wp2_with fail; refine wp_region_held (S := fun X => X = wr.drew) (by kernel_rfl) ?_
   change wpAnyH _ _ _ _ _ _ _ _ (World.drew _); refine wh 0 (.slice (some ⟨g1, 0, none⟩) A.length c2) rfl ?_; refine wh 1 (.int .i64 k) rfl ?_; refine wh 2 (.pointer (some ⟨g1, k, none⟩)) rfl ?_
   refine wh 3 (nPtr x1) rfl ?_ (hy := Or.inl ⟨by kernel_rfl, fun X hX => by cases hX; go_simp⟩)
   refine wh 4 (.slice (some ⟨g2, 0, none⟩) A.length c3) rfl ?_; refine wh 5 (.int .i64 k) rfl ?_; refine wh 6 (.pointer (some ⟨g2, k, none⟩)) rfl ?_
   refine wh 7 (nPtr x2) rfl ?_ (hy := Or.inl ⟨by kernel_rfl, fun X hX => by cases hX; go_simp⟩)
   refine wh 8 (nPtr x1) rfl ?_; refine wh 9 (nPtr x2) rfl ?_; refine wpAnyH_done (by kernel_rfl) ?_ _; go_simp; have d0 : wr.drew.cell? ⟨x1, 0, none⟩ = some (.int .i64 y.kd) := k0
   have HDR : Hid (Below wr.heap.size wr wr.drew) := qb.drew; have HN1' := qh (HN1.out.later HDR.out); have HN2' := qh (HN2.out.later HDR.out); have HBD := qh (HB.out.trans (HDR.out.mono HB.out.size))
   obtain ⟨X0, hX0⟩ : ∃ X0, X0 = wr.drew := ⟨_, rfl⟩; rw [← hX0] at d0 HN1' HN2' HBD ⊢; obtain ⟨kd, hkd⟩ : ∃ kd, kd = y.kd := ⟨_, rfl⟩; rw [← hkd] at d0; have hxl0 := cellR d0
   clear hX0 HDR HN1 HN2 k0 hxl hc1 hc2 hg1 hg2 hkd HBW HB
   by_cases hyes : kd = 1 ∨ kd = 6
   ·
    have hb1 : (kd != 1 && kd != 6) = false := by rcases hyes with rfl | rfl <;> rfl
    have HN1_X0 := HN1'; have HN2_X0 := HN2'; have HB_X0 := HBD; have HL_varsT_y : Hid ((zdk y).length ≤ 1500) := by
     have h1 := zm2 y; have h2 : y.count = 1 + Tr.counts y.kids := by cases y with | mk kd tx nn ks => exact zqy _ _ _ _
     show (zdk y).length ≤ _
     omega
    have HL_namesT_y_true : Hid ((zgz y true).length ≤ 4500) := by have h1 := names_len y true; show (zgz y true).length ≤ _; omega
    have HL_namesT_y_false : Hid ((zgz y false).length ≤ 4500) := by have h1 := names_len y false; show (zgz y false).length ≤ _; omega
    clear HN1' HN2' HBD hb1
    rcases hyes with rfl | rfl
    all_goals
     have HC := qh (vars_any y x1 X0 HN1_X0.out (by omega)); go_wp2_with fail; refine cm HC.out ?_; rintro e X1 ⟨⟨u, rfl, hr⟩, hq⟩; obtain ⟨ua1, uc1, rfl⟩ := zz7 hr; have HS1 := qh hr
     have HN1_X1 := qh (HN1_X0.out.later hq); have HN2_X1 := qh (HN2_X0.out.later hq); have HB_X1 := qh (HB_X0.out.trans (hq.mono HB_X0.out.size)); clear HC hq HN1_X0 HN2_X0 HB_X0 hr
     have HC := qh (rvars_any y x2 X1 HN2_X1.out (by omega)); go_wp2_with fail; refine cm HC.out ?_; rintro e X2 ⟨⟨u, rfl, hr⟩, hq⟩; obtain ⟨ua2, uc2, rfl⟩ := zz7 hr; have HS2 := qh hr
     have HN1_X2 := qh (HN1_X1.out.later hq); have HN2_X2 := qh (HN2_X1.out.later hq); have HB_X2 := qh (HB_X1.out.trans (hq.mono HB_X1.out.size)); have HS1c := qh (SRow.later HS1.out hq)
     clear HC hq HN1_X1 HN2_X1 HB_X1 hr; have HC := qh (sameT_any (zdk y) _ _ X2 HS1c.out HS2.out (by have := zzz HL_varsT_y; omega))
     go_wp2_with fail; refine cm HC.out ?_; rintro e X3 ⟨rfl, hq⟩; have HN1_X3 := qh (HN1_X2.out.later hq); have HN2_X3 := qh (HN2_X2.out.later hq); have HB_X3 := qh (HB_X2.out.trans (hq.mono HB_X2.out.size))
     clear HC hq HN1_X2 HN2_X2 HB_X2; have HC := qh (funcs_any y x1 X3 HN1_X3.out (by omega)); go_wp2_with fail; refine cm HC.out ?_; rintro e X4 ⟨⟨u, rfl, hr⟩, hq⟩; obtain ⟨ua4, uc4, rfl⟩ := hr.form
     have HN1_X4 := qh (HN1_X3.out.later hq); have HN2_X4 := qh (HN2_X3.out.later hq); have HB_X4 := qh (HB_X3.out.trans (hq.mono HB_X3.out.size)); clear HC hq HN1_X3 HN2_X3 HB_X3 hr
     have HC := qh (zn3 y x2 X4 X4 HN2_X4.out qb (by omega)); go_wp2_with fail; refine cm HC.out ?_; rintro e X5 ⟨⟨u, rfl, hr⟩, hq⟩; obtain ⟨ua5, uc5, rfl⟩ := hr.form
     have HN1_X5 := qh (HN1_X4.out.later hq); have HN2_X5 := qh (HN2_X4.out.later hq); have HB_X5 := qh (HB_X4.out.trans (hq.mono HB_X4.out.size)); clear HC hq HN1_X4 HN2_X4 HB_X4 hr
     have HC := qh (lets_any y x1 X5 HN1_X5.out (by omega)); go_wp2_with fail; refine cm HC.out ?_; rintro e X6 ⟨⟨u, rfl, hr⟩, hq⟩; obtain ⟨ua6, uc6, rfl⟩ := hr.form; have HN1_X6 := qh (HN1_X5.out.later hq)
     have HN2_X6 := qh (HN2_X5.out.later hq); have HB_X6 := qh (HB_X5.out.trans (hq.mono HB_X5.out.size)); clear HC hq HN1_X5 HN2_X5 HB_X5 hr
     have HC := qh (rlets_any y x2 X6 X6 HN2_X6.out qb (by omega)); go_wp2_with fail; refine cm HC.out ?_; rintro e X7 ⟨⟨u, rfl, hr⟩, hq⟩; obtain ⟨ua7, uc7, rfl⟩ := hr.form
     have HN1_X7 := qh (HN1_X6.out.later hq); have HN2_X7 := qh (HN2_X6.out.later hq); have HB_X7 := qh (HB_X6.out.trans (hq.mono HB_X6.out.size)); clear HC hq HN1_X6 HN2_X6 HB_X6 hr
     have HC := qh (names_any y x1 true X7 HN1_X7.out (by omega)); go_wp2_with fail; refine cm HC.out ?_; rintro e X8 ⟨⟨u, rfl, hr⟩, hq⟩; obtain ⟨ua8, uc8, rfl⟩ := zz7 hr; have HS8 := qh hr
     have HN1_X8 := qh (HN1_X7.out.later hq); have HN2_X8 := qh (HN2_X7.out.later hq); have HB_X8 := qh (HB_X7.out.trans (hq.mono HB_X7.out.size)); clear HC hq HN1_X7 HN2_X7 HB_X7 hr
     have HC := qh (rnames_any y x2 true X8 HN2_X8.out (by omega)); go_wp2_with fail; refine cm HC.out ?_; rintro e X9 ⟨⟨u, rfl, hr⟩, hq⟩; obtain ⟨ua9, uc9, rfl⟩ := zz7 hr; have HS9 := qh hr
     have HN1_X9 := qh (HN1_X8.out.later hq); have HN2_X9 := qh (HN2_X8.out.later hq); have HB_X9 := qh (HB_X8.out.trans (hq.mono HB_X8.out.size)); have HS8c := qh (SRow.later HS8.out hq)
     clear HC hq HN1_X8 HN2_X8 HB_X8 hr; have HC := qh (sameT_any (zgz y true) _ _ X9 HS8c.out HS9.out (by have := zzz HL_namesT_y_true; omega))
     go_wp2_with fail; refine cm HC.out ?_; rintro e X10 ⟨rfl, hq⟩; have HN1_X10 := qh (HN1_X9.out.later hq); have HN2_X10 := qh (HN2_X9.out.later hq); have HB_X10 := qh (HB_X9.out.trans (hq.mono HB_X9.out.size))
     clear HC hq HN1_X9 HN2_X9 HB_X9; have HC := qh (names_any y x1 false X10 HN1_X10.out (by omega)); go_wp2_with fail; refine cm HC.out ?_; rintro e X11 ⟨⟨u, rfl, hr⟩, hq⟩; obtain ⟨ua11, uc11, rfl⟩ := zz7 hr
     have HS11 := qh hr; have HN1_X11 := qh (HN1_X10.out.later hq); have HN2_X11 := qh (HN2_X10.out.later hq); have HB_X11 := qh (HB_X10.out.trans (hq.mono HB_X10.out.size)); clear HC hq HN1_X10 HN2_X10 HB_X10 hr
     have HC := qh (rnames_any y x2 false X11 HN2_X11.out (by omega)); go_wp2_with fail; refine cm HC.out ?_; rintro e X12 ⟨⟨u, rfl, hr⟩, hq⟩; obtain ⟨ua12, uc12, rfl⟩ := zz7 hr; have HS12 := qh hr
     have HN1_X12 := qh (HN1_X11.out.later hq); have HN2_X12 := qh (HN2_X11.out.later hq); have HB_X12 := qh (HB_X11.out.trans (hq.mono HB_X11.out.size)); have HS11c := qh (SRow.later HS11.out hq)
     clear HC hq HN1_X11 HN2_X11 HB_X11 hr; have HC := qh (sameT_any (zgz y false) _ _ X12 HS11c.out HS12.out (by have := zzz HL_namesT_y_false; omega))
     go_wp2_with fail; refine cm HC.out ?_; rintro e X13 ⟨rfl, hq⟩; have HN1_X13 := qh (HN1_X12.out.later hq); have HN2_X13 := qh (HN2_X12.out.later hq); have HB_X13 := qh (HB_X12.out.trans (hq.mono HB_X12.out.size))
     clear HC hq HN1_X12 HN2_X12 HB_X12; go_wp2_with fail
     go_roundw
     case rel => exact ⟨k + 1, by omega, by go_num, HB_X13.out⟩
     case measure => simp [intOf]; omega
   ·
    have hb1 : (kd != 1) = true := bne_iff_ne.2 (fun e => hyes (Or.inl e)); have hb6 : (kd != 6) = true := bne_iff_ne.2 (fun e => hyes (Or.inr e)); clear hyes HN1' HN2'; go_wp2_with fail
    go_roundw
    case rel => exact ⟨k + 1, by omega, by go_num, HBD.out⟩
    case measure => simp [intOf]; omega
  ·
   have hkk : k = A.length := by omega
   subst hkk; have HC := qh (vars_nil wr); go_wp2_with fail; refine cm HC.out ?_; rintro e y1 ⟨⟨u, rfl, hr⟩, hq⟩; obtain ⟨va, vc, rfl⟩ := zz7 hr; have HY1 := qh (HBW.out.trans (hq.mono HBW.out.size))
   have HC1 := qh (names_nil y1); clear HC hr hq; go_wp2_with fail; refine cm HC1.out ?_; rintro e y2 ⟨⟨u, rfl, hr⟩, hq⟩; obtain ⟨na, nc, rfl⟩ := zz7 hr; have HY2 := qh (HY1.out.trans (hq.mono HY1.out.size))
   have HC2 := qh (lets_nil y2); clear HC1 hr hq; go_wp2_with fail; refine cm HC2.out ?_; rintro e y3 ⟨rfl, rfl⟩; have HC3 := qh (funcs_nil y3); clear HC2; go_wp2_with fail; refine cm HC3.out ?_; rintro e y4 ⟨rfl, rfl⟩
   clear HC3; go_wp2_with fail; go_ret; exact ⟨rfl, HB1.out.trans (HY2.out.mono HB1.out.size)⟩
theorem hnames_any (ws gs : List ByteArray) (s : ByteArray) (w : World) (hL : Lists ws gs w) (hT : Tabs w) (hR : RefLists ws w) (hg : gs = signsS) (hws : ∀ x ∈ ws, sgP 2 x = none) : Calls Tryz.prog 7 #[.string s] w fun e w' => e = .returned (.bool true) ∧ Below w.heap.size w w' := by
 have hb := both_any ws gs s w hL hT hR hg hws
 cases h : bothS ws s with
 | none => rw [h] at hb; exact hnames_none s w hb
 | some t =>
  rw [h] at hb; exact hnames_some s t w (bothS_count hg hws h).1 hb
end Go.Proofs.YtodmgaikhbmlnaaGreatDoor
