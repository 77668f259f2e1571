/-
  The document's Early: its walk, what stands behind if, while, with.
-/
import Derived.Test.YtodmgaikhbmlnaaGreatDoorEc30
set_option maxRecDepth 100000
set_option maxHeartbeats 16000000
namespace Go.Proofs.YtodmgaikhbmlnaaGreatDoor
open Go.RowKit
theorem ew_br_t {G : Prop} (h : G := by
  clear HK9; go_enter Tryz.func90, Tryz.ntmps90; go_wp2_with fail
  go_loopw [186] (fun j wr => ∃ k : Nat, k ≤ t.kids.length - 1 ∧ j = .int .i64 k ∧ ((t.kids.drop 1).take k).any declK = false ∧ wr = w) (fun j _ => t.kids.length - 1 - (intOf j).toNat)
  case atStart => exact ⟨0, Nat.zero_le _, rfl, rfl, rfl⟩
  case round =>
   obtain ⟨k, hk, rfl, hno, rfl⟩ := hrel; have HNO := hide hno; clear hno
   by_cases hlt : k < t.kids.length - 1
   ·
    exact zbba
   ·
    have hkk : k = t.kids.length - 1 := by omega
    subst hkk; have hRe : R = allR (fun k => rck d k true i) t.kids := by
     have h := unhide HNO; rw [List.take_of_length_le (by simp)] at h; rw [HRR.out, h]; rfl
    rw [← hRe] at HGO; clear hRe HRR HNO hcq c3; go_wp2_with fail; have hS0 : Below wr.heap.size wr wr.drew := (Below.refl _ _).drew; have eA := keepC HB0.out HCA.out; have e3 := keepC HB0.out HC3.out
    refine wp_region_held (S := fun X => Below wr.heap.size wr X) (by kernel_rfl) ?_; change wpAnyH _ _ _ _ _ _ _ _ (World.drew _)
    refine wh 0 (alV bW) hS0 ?_ (hy := Or.inl ⟨by kernel_rfl, fun X hX => by have hh := keepC hX eA; go_simp⟩)
    refine wh 1 (nPtr p) hS0 ?_; refine wh 2 (nPtr p) hS0 ?_; refine wh 3 (.pointer (some ⟨p, 3, none⟩)) hS0 ?_
    refine wh 4 (.slice (some ⟨g, 0, none⟩) t.kids.length uc) hS0 ?_ (hy := Or.inl ⟨by kernel_rfl, fun X hX => by have hh := keepC hX e3; go_simp⟩)
    refine wh 5 (.bool true) hS0 ?_; refine wh 6 (.bool i) hS0 ?_; refine wq1 7 fun K hK => ?_; go_simp; refine cm (HGO.out _ (HB0.out.trans (hS0.mono HB0.out.size))) ?_; rintro e w9 ⟨rfl, hb9⟩
    have hS9 : Below wr.heap.size wr w9 := hS0.trans (hb9.mono (Nat.le_refl _)); refine hK.out _ _ hS9 (fun _ => ?_); clear hK K; refine wh 8 (eI R) hS9 ?_; refine wpAnyH_done (by kernel_rfl) ?_ _; go_simp
    have HB9 := hide (HB0.out.trans (hS9.mono HB0.out.size)); clear hS0 eA e3 hb9 hS9; go_wp2_with fail; go_ret; exact ⟨rfl, HB9.out⟩) : G := h
theorem ew_br_f {G : Prop} (h : G := by
  clear HK9; go_enter Tryz.func90, Tryz.ntmps90; go_wp2_with fail
  go_loopw [186] (fun j wr => ∃ k : Nat, k ≤ t.kids.length - 1 ∧ j = .int .i64 k ∧ ((t.kids.drop 1).take k).any declK = false ∧ wr = w) (fun j _ => t.kids.length - 1 - (intOf j).toNat)
  case atStart => exact ⟨0, Nat.zero_le _, rfl, rfl, rfl⟩
  case round =>
   obtain ⟨k, hk, rfl, hno, rfl⟩ := hrel; have HNO := hide hno; clear hno
   by_cases hlt : k < t.kids.length - 1
   ·
    exact zbba
   ·
    have hkk : k = t.kids.length - 1 := by omega
    subst hkk; have hRe : R = allR (fun k => rck d k false i) t.kids := by
     have h := unhide HNO; rw [List.take_of_length_le (by simp)] at h; rw [HRR.out, h]; rfl
    rw [← hRe] at HGO; clear hRe HRR HNO hcq c3; go_wp2_with fail; have hS0 : Below wr.heap.size wr wr.drew := (Below.refl _ _).drew; have eA := keepC HB0.out HCA.out; have e3 := keepC HB0.out HC3.out
    refine wp_region_held (S := fun X => Below wr.heap.size wr X) (by kernel_rfl) ?_; change wpAnyH _ _ _ _ _ _ _ _ (World.drew _)
    refine wh 0 (alV bW) hS0 ?_ (hy := Or.inl ⟨by kernel_rfl, fun X hX => by have hh := keepC hX eA; go_simp⟩)
    refine wh 1 (nPtr p) hS0 ?_; refine wh 2 (nPtr p) hS0 ?_; refine wh 3 (.pointer (some ⟨p, 3, none⟩)) hS0 ?_
    refine wh 4 (.slice (some ⟨g, 0, none⟩) t.kids.length uc) hS0 ?_ (hy := Or.inl ⟨by kernel_rfl, fun X hX => by have hh := keepC hX e3; go_simp⟩)
    refine wh 5 (.bool false) hS0 ?_; refine wh 6 (.bool i) hS0 ?_; refine wq1 7 fun K hK => ?_; go_simp; refine cm (HGO.out _ (HB0.out.trans (hS0.mono HB0.out.size))) ?_; rintro e w9 ⟨rfl, hb9⟩
    have hS9 : Below wr.heap.size wr w9 := hS0.trans (hb9.mono (Nat.le_refl _)); refine hK.out _ _ hS9 (fun _ => ?_); clear hK K; refine wh 8 (eI R) hS9 ?_; refine wpAnyH_done (by kernel_rfl) ?_ _; go_simp
    have HB9 := hide (HB0.out.trans (hS9.mono HB0.out.size)); clear hS0 eA e3 hb9 hS9; go_wp2_with fail; go_ret; exact ⟨rfl, HB9.out⟩) : G := h
section
variable {Nm : ByteArray → Prop} {bS bW bA d : Nat} (ih : EwAt Nm bS bW bA d) (t : Tr) (c : Nat) (hsh : Shp Nm c t) (ht : t.count ≤ d + 1) (hc : t.count ≤ 1500) (p : Nat) (s i : Bool) (w : World) (hnt : NTr w t p) (hS : EaSt bS bW bA w)
include ih hsh ht hc hnt hS
open zrqo in
theorem ew_branch (hkd : t.kd = 7 ∨ t.kd = 8 ∨ t.kd = 9) : Calls Tryz.prog 90 #[nPtr p, .bool s, .bool i, .pointer (some ⟨bS, 0, none⟩), .pointer (some ⟨bA, 0, none⟩)] w fun e w' => e = .returned (eI (rck (d + 1) t s i)) ∧ Below w.heap.size w w' := by
 exact zri
end
theorem rparams2_any (t : Tr) (p : Nat) (w : World) (h : NTr w t p) (hk : 1 ≤ t.kids.length) (hc : t.count ≤ 1500) :
  Calls Tryz.prog 80 #[nPtr p] w fun e w' => (∃ u, e = .returned u ∧ SRow w.heap.size w' u (onceL ((kidT t 0).kids.map Tr.tx))) ∧ Below w.heap.size w w' := by
 have htc : t.count = 1 + Tr.counts t.kids := by cases t with | mk kd tx nn ks => exact count_mk _ _ _ _
 have hkl : t.kids.length ≤ 1500 := by have := counts_len t.kids; omega
 have hp0 : (kidT t 0).kids.length ≤ 1500 := by
  rw [kidT_eq t 0 (by omega)]; have h1 := counts_le t.kids 0 (by omega); have h2 : (t.kids[0]).count = 1 + Tr.counts (t.kids[0]).kids := by cases t.kids[0] with | mk kd tx nn ks => exact count_mk _ _ _ _
  have := counts_len (t.kids[0]).kids; omega
 obtain ⟨hpl, _, _, u, c3, hr⟩ := h.cells
 obtain ⟨g, cap, q, rfl, hg, hcq, hn⟩ := hr.cell 0 (by omega)
 rw [← kidT_eq t 0 (by omega)] at hn
 obtain ⟨hql, _, _, u2, d3, hr2⟩ := hn.cells
 obtain ⟨a2, c2, rfl⟩ := hr2.form
 have HR := hide hr2
 clear h hr hn hr2 htc hc
 generalize (kidT t 0).kids = ps at HR d3 hp0
 generalize t.kids.length = L at c3 hk hkl
 have hL0 : ¬ L = 0 := by omega
 go_enter Tryz.func80, Tryz.ntmps80
 go_wp2_with fail
 go_loopw [3, 16] (fun o j wr => ∃ k : Nat, k ≤ ps.length ∧ j = .int .i64 k ∧ SRow w.heap.size wr o (onceL ((ps.take k).map Tr.tx)) ∧ Below w.heap.size w wr) (fun _ j _ => ps.length - (intOf j).toNat)
 case atStart => exact ⟨0, Nat.zero_le _, rfl, srow_nil _ _, Below.refl _ _⟩
 case round =>
  obtain ⟨k, hk2, rfl, hown, hbel⟩ := hrel; have HOWN := hide hown; have HB := hide hbel; obtain ⟨oa, oc, rfl⟩ := srow_form hown; clear hown hbel c3 d3 hcq
  by_cases hlt : k < ps.length
  ·
   obtain ⟨g2, cap2, q2, hv, hg2, hcc, hn⟩ := (HR.out.later HB.out).cell k hlt; simp only [Value.slice.injEq] at hv; obtain ⟨rfl, _, rfl⟩ := hv; obtain ⟨hql2, _, q1, _⟩ := hn.cells
   have hki : (k : Int) < (ps.length : Int) := by omega
   have hfl2 : (onceL ((ps.take k).map Tr.tx)).length ≤ 1500 := by
    have h1 := once_len ((ps.take k).map Tr.tx); rw [List.length_map, List.length_take] at h1; omega
   have HTK : Hid (onceL ((ps.take (k + 1)).map Tr.tx) = addB (onceL ((ps.take k).map Tr.tx)) (ps[k]).tx) := by
    show _ = _
    rw [List.take_succ_eq_append_getElem hlt, List.map_append, onceL, List.foldl_append]; rfl
   have HC := hide (radd_any (onceL ((ps.take k).map Tr.tx)) (ps[k]).tx _ wr HOWN.out (by omega) HB.out.size)
   generalize (ps[k]).tx = y at q1 HC HTK
   generalize onceL ((ps.take k).map Tr.tx) = M at HC HTK HOWN hfl2
   clear hn; go_wp2_with fail; refine cm HC.out ?_; rintro e w6 ⟨⟨u6, rfl, hr6⟩, hb6⟩; obtain ⟨a6, c6, rfl⟩ := srow_form hr6; have HR6 := hide hr6; have HB6 := hide (HB.out.trans (hb6.mono HB.out.size)); exact zccc
  ·
   have hii : k = ps.length := by omega
   subst hii; go_wp2_with fail; go_ret; refine ⟨⟨_, rfl, ?_⟩, HB.out⟩; exact zbdx
theorem nrow_le {B : Nat} {w : World} {a : Option Addr} {n cap : Nat} {ts : List Tr} (h : NRow B w (.slice a n cap) ts) : (n : Int) ≤ (cap : Int) := by
 obtain ⟨ps, ⟨_, h1 | ⟨g, c, cur, h1, _, _, h2, _⟩⟩, _⟩ := h
 ·
  have := h1.1; simp at this; omega
 ·
  simp at h1; obtain ⟨_, h3, h4⟩ := h1; omega
theorem has_once (PS : List Tr) (x : ByteArray) : hasB (onceL (PS.map Tr.tx)) x = namedB PS x := by
 rw [Bool.eq_iff_iff, hasB_iff, once_mem]
 unfold namedB
 rw [List.mem_map, List.any_eq_true]
 simp only [decide_eq_true_eq]
open zrqa in
theorem fn_lets_t {G : Prop} (h : G := by
  exact zead
 ) : G := h
open zrqb in
theorem fn_lets_f {G : Prop} (h : G := by
  exact zead
 ) : G := h
open zrqc in
theorem fn_rest_t {G : Prop} (h : G := by
  have HPX : Hid (∀ e, parE true PS = some e → R = some e) := fun e he => by rw [hRe, he]
  have HLX : Hid (parE true PS = none → (letsT (kidT t 1)).any (fun x => namedB PS x.tx) = true → R = some 9) := fun h0 h => by rw [hRe, h0, h]; rfl
  have HLE : Hid (parE true PS = none → (letsT (kidT t 1)).any (fun x => namedB PS x.tx) = false → (rtw (kidT t 1) true = true → R = some 9) ∧ (rtw (kidT t 1) true = false → R = allR (fun k => rck d k true true) (kidT t 1).kids)) := fun h0 h => ⟨fun h2 => by rw [hRe, h0, h, h2]; rfl, fun h2 => by rw [hRe, h0, h, h2]; rfl⟩
  clear hRe HRR; exact zrbr
 ) : G := h
open zrqd in
theorem fn_rest_f {G : Prop} (h : G := by
  have HPX : Hid (∀ e, parE false PS = some e → R = some e) := fun e he => by rw [hRe, he]
  have HLX : Hid (parE false PS = none → (letsT (kidT t 1)).any (fun x => namedB PS x.tx) = true → R = some 9) := fun h0 h => by rw [hRe, h0, h]; rfl
  have HLE : Hid (parE false PS = none → (letsT (kidT t 1)).any (fun x => namedB PS x.tx) = false → (rtw (kidT t 1) true = true → R = some 9) ∧ (rtw (kidT t 1) true = false → R = allR (fun k => rck d k false true) (kidT t 1).kids)) := fun h0 h => ⟨fun h2 => by rw [hRe, h0, h, h2]; rfl, fun h2 => by rw [hRe, h0, h, h2]; rfl⟩
  clear hRe HRR; exact zrbr
 ) : G := h
theorem fn_head_t {G : Prop} (h : G := by
  go_enter Tryz.func90, Tryz.ntmps90; exact zbbe
 ) : G := h
theorem fn_head_ft {G : Prop} (h : G := by
  go_enter Tryz.func90, Tryz.ntmps90; go_wp2_with fail; refine cm HSB.out ?_; rintro e wz ⟨rfl, hwz⟩; rw [hwz]; clear hwz HSB; exact zbbe
 ) : G := h
theorem fn_head_ff {G : Prop} (h : G := by
  go_enter Tryz.func90, Tryz.ntmps90; go_wp2_with fail; refine cm HSB.out ?_; rintro e wz ⟨rfl, hwz⟩; rw [hwz]; clear hwz HSB; go_wp2_with fail; clear c3 hcq0 hcq1 p3 f3; have hsp : (false && isSp tx) = false := rfl
  rw [hsp] at HSP
  have hRe : R = match (match (match parE false PS with | some e => some e | none => if (letsT (kidT t 1)).any (fun k => namedB PS k.tx) then some 9 else none) with | some e => some e | none => oE (rtw (kidT t 1) true) 9) with | some e => some e | none => allR (fun k => rck d k false true) (kidT t 1).kids := by rw [HRR.out]; rfl
  clear hsp; exact fn_rest_f
 ) : G := h
end Go.Proofs.YtodmgaikhbmlnaaGreatDoor
