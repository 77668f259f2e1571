/-
  The document's Names.
-/
import Derived.Test.YtoimgcjbcbhclaaGreatDoorAo23
set_option maxRecDepth 100000
set_option maxHeartbeats 16000000
namespace Go.Proofs.YtoimgcjbcbhclaaGreatDoor
open Go.RowKit
theorem ptr_ones (ps : List Nat) : ∀ u ∈ ps.map nPtr, u.oneCell' = true := by
 intro u hu
 obtain ⟨p, _, rfl⟩ := List.mem_map.1 hu
 rfl
theorem rnames_any (t : Tr) (p : Nat) (body : Bool) (w : World) (h : NTr w t p) (hc : t.count ≤ 20000) :
  Calls Tryz.prog 54 #[nPtr p, .bool body] w fun e w' => (∃ u, e = .returned u ∧ SRow w.heap.size w' u (namesT t body)) ∧ Below w.heap.size w w' := by
 obtain ⟨i0, hi0, hz0, hz1, hz2⟩ := info_parts info22
 have htc : t.count = 1 + Tr.counts t.kids := by cases t with | mk kd tx nn ks => exact count_mk _ _ _ _
 have hkl : t.kids.length ≤ 20000 := by have := counts_len t.kids; omega
 have hfl := fns_len t
 have hll := lets_len t
 have hvl := vars_len t
 have HN0 := hide h
 obtain ⟨V, hV⟩ : ∃ V, V = if body then varsT t else [] := ⟨_, rfl⟩
 have hVl : V.length ≤ 20000 := by
  rw [hV]
  split
  ·
   omega
  ·
   simp
 have hnm : namesT t body = (((fnsT t) ++ (letsT t)).map Tr.tx).foldl addB V := by
  unfold namesT; rw [← hV, List.append_assoc, onceL, List.foldl_append, List.map_append]; have h1 : V.foldl addB [] = V := by
   rw [hV]
   split
   ·
    exact once_once _
   ·
    rfl
  rw [h1]
 rw [hnm]
 have HV := hide hV
 have HC0 := hide (rvars_any t p w h hc)
 clear h hnm htc hvl hc hV
 obtain ⟨NL, hNL⟩ : ∃ NL, NL = fnsT t ++ letsT t := ⟨_, rfl⟩
 rw [← hNL]
 have hnl : NL.length ≤ 40000 := by rw [hNL, List.length_append]; omega
 have HNL := hide hNL
 clear hNL
 cases body with
 | true =>
  have hV2 : V = varsT t := unhide HV; rw [← hV2] at HC0; clear hV2 HV; go_enter Tryz.func54, Tryz.ntmps54; go_wp2_with fail; refine cm HC0.out ?_; rintro e W1 ⟨⟨u1, rfl, hr1⟩, hb1⟩; obtain ⟨A1, C1, rfl⟩ := srow_form hr1
  have HV1 := hide hr1; have HB1 := hide hb1; clear HC0 hr1 hb1; have HC := hide (rfuncs_any t p w W1 HN0.out HB1.out hkl); go_wp2_with fail; refine cm HC.out ?_; rintro e w2 ⟨⟨u2, rfl, hr2⟩, hb2⟩
  have HB2 := hide (HB1.out.trans (hb2.mono HB1.out.size)); have HV2 := hide (SRow.later HV1.out hb2); have HF2 := hide hr2; have HS2 := hide hb2.size; obtain ⟨a2, c2, rfl⟩ := hr2.form
  have HC2 := hide (rlets_any t p w w2 HN0.out HB2.out hkl); clear HC hr2 hb2; go_wp2_with fail; refine cm HC2.out ?_; rintro e w3 ⟨⟨u3, rfl, hr3⟩, hb3⟩; have HB3 := hide (HB2.out.trans (hb3.mono HB2.out.size))
  have HV3 := hide (SRow.later HV2.out hb3); have HS3 := hide (Nat.le_trans HS2.out hb3.size); obtain ⟨a3, c3, rfl⟩ := hr3.form; obtain ⟨ps, hf1, hf2⟩ := HF2.out.later hb3; obtain ⟨qs, hg1, hg2⟩ := hr3
  have hpl := NLs.length _ _ hf2; have hql := NLs.length _ _ hg2; rw [hpl] at hf1; rw [hql] at hg1; have HF3 := hide hf1; have HG3 := hide hg1; have HNS := hide (NLs.append hg2 _ _ hf2)
  have HPQ : Hid (ps.length = (fnsT t).length ∧ qs.length = (letsT t).length) := ⟨hpl, hql⟩; clear HC2 hb3 hf1 hf2 hg1 hg2 hpl hql HF2
  go_wp2_with (at_builtin; refine wpList_app_row rfl _ _ 46 rfl W1.heap.size _ 22 i0 (.pointer none) 8 Tryz.underlying46 hi0 hz0 hz1 hz2 rfl _ _ _ rfl HF3.out _ _ _ rfl HG3.out (ptr_ones qs) (by unfold maxLen; omega) (by omega) HS3.out ?_)
  intro v4 w4 hown4 hgr4; have hob := fun k hk => (own_lt HF3.out k hk).2; have HB4 := hide (HB3.out.grown hgr4 HB3.out.size (fun k hk => Nat.le_trans HB1.out.size (hob k hk))); have HRW : Hid (NRow0 w 0 w4 v4 NL) := by
   have h1 : NRow0 w W1.heap.size w4 v4 (fnsT t ++ letsT t) := by
    refine ⟨ps ++ qs, ?_, HNS.out⟩; rw [List.length_append, List.map_append, HPQ.out.1, HPQ.out.2]; exact hown4
   rw [HNL.out]; exact h1.low (Nat.zero_le _)
  have HV4 : Hid (SRow w.heap.size w4 (.slice A1 V.length C1) V) := owns_stay (I := fun x => x < W1.heap.size) (fun x hx hl => hgr4.block x hl (fun e => absurd (hob x e.symm) (by have h1 : x < W1.heap.size := hx; omega))) (fun g hg => (own_lt HV1.out g hg).1) HV3.out
  obtain ⟨a4, c4, rfl⟩ := HRW.out.form; clear hown4 hgr4 hob HV3 HV2 HNS HPQ HF3 HG3 HS2 HS3; go_wp2_with fail
  go_loopw [5, 17] (fun o j wr => ∃ k : Nat, k ≤ NL.length ∧ j = .int .i64 k ∧ SRow w.heap.size wr o (((NL.take k).map Tr.tx).foldl addB V) ∧ Below w4.heap.size w4 wr) (fun _ j _ => NL.length - (intOf j).toNat)
  case atStart => exact ⟨0, Nat.zero_le _, rfl, HV4.out, Below.refl _ _⟩
  case round =>
   exact zbaw
 | false =>
  have HV1 : Hid (SRow w.heap.size w (.slice none V.length 0) V) := by
   have h1 : V = [] := unhide HV; rw [h1]; exact srow_nil _ _
  have hV0 : V.length = 0 := by
   have h1 : V = [] := unhide HV; rw [h1]; rfl
  have HB1 : Hid (Below w.heap.size w w) := Below.refl _ _; clear HC0 HV; go_enter Tryz.func54, Tryz.ntmps54; have HC := hide (rfuncs_any t p w w HN0.out HB1.out hkl); go_wp2_with fail; refine cm HC.out ?_
  rintro e w2 ⟨⟨u2, rfl, hr2⟩, hb2⟩; have HB2 := hide (HB1.out.trans (hb2.mono HB1.out.size)); have HV2 := hide (SRow.later HV1.out hb2); have HF2 := hide hr2; have HS2 := hide hb2.size; obtain ⟨a2, c2, rfl⟩ := hr2.form
  have HC2 := hide (rlets_any t p w w2 HN0.out HB2.out hkl); clear HC hr2 hb2; go_wp2_with fail; refine cm HC2.out ?_; rintro e w3 ⟨⟨u3, rfl, hr3⟩, hb3⟩; have HB3 := hide (HB2.out.trans (hb3.mono HB2.out.size))
  have HV3 := hide (SRow.later HV2.out hb3); have HS3 := hide (Nat.le_trans HS2.out hb3.size); obtain ⟨a3, c3, rfl⟩ := hr3.form; obtain ⟨ps, hf1, hf2⟩ := HF2.out.later hb3; obtain ⟨qs, hg1, hg2⟩ := hr3
  have hpl := NLs.length _ _ hf2; have hql := NLs.length _ _ hg2; rw [hpl] at hf1; rw [hql] at hg1; have HF3 := hide hf1; have HG3 := hide hg1; have HNS := hide (NLs.append hg2 _ _ hf2)
  have HPQ : Hid (ps.length = (fnsT t).length ∧ qs.length = (letsT t).length) := ⟨hpl, hql⟩; clear HC2 hb3 hf1 hf2 hg1 hg2 hpl hql HF2
  go_wp2_with (at_builtin; refine wpList_app_row rfl _ _ 46 rfl w.heap.size _ 22 i0 (.pointer none) 8 Tryz.underlying46 hi0 hz0 hz1 hz2 rfl _ _ _ rfl HF3.out _ _ _ rfl HG3.out (ptr_ones qs) (by unfold maxLen; omega) (by omega) HS3.out ?_)
  intro v4 w4 hown4 hgr4; have hob := fun k hk => (own_lt HF3.out k hk).2; have HB4 := hide (HB3.out.grown hgr4 HB3.out.size (fun k hk => Nat.le_trans HB1.out.size (hob k hk))); have HRW : Hid (NRow0 w 0 w4 v4 NL) := by
   have h1 : NRow0 w w.heap.size w4 v4 (fnsT t ++ letsT t) := by
    refine ⟨ps ++ qs, ?_, HNS.out⟩; rw [List.length_append, List.map_append, HPQ.out.1, HPQ.out.2]; exact hown4
   rw [HNL.out]; exact h1.low (Nat.zero_le _)
  have HV4 : Hid (SRow w.heap.size w4 (.slice none V.length 0) V) := owns_stay (I := fun x => x < w.heap.size) (fun x hx hl => hgr4.block x hl (fun e => absurd (hob x e.symm) (by have h1 : x < w.heap.size := hx; omega))) (fun g hg => (own_lt HV1.out g hg).1) HV3.out
  obtain ⟨a4, c4, rfl⟩ := HRW.out.form; clear hown4 hgr4 hob HV3 HV2 HNS HPQ HF3 HG3 HS2 HS3; go_wp2_with fail
  go_loopw [5, 17] (fun o j wr => ∃ k : Nat, k ≤ NL.length ∧ j = .int .i64 k ∧ SRow w.heap.size wr o (((NL.take k).map Tr.tx).foldl addB V) ∧ Below w4.heap.size w4 wr) (fun _ j _ => NL.length - (intOf j).toNat)
  case atStart => exact ⟨0, Nat.zero_le _, rfl, by have h := unhide HV4; rw [hV0] at h; exact h, Below.refl _ _⟩
  case round =>
   exact zbaw
def kid0 (t : Tr) : Tr := match t.kids with | k :: _ => k | [] => .mk 0 ByteArray.empty 0 []
theorem kid0_eq (t : Tr) (h : 0 < t.kids.length) : kid0 t = t.kids[0] := by
 unfold kid0
 split
 ·
  rename_i k ks e; simp [e]
 ·
  rename_i e; rw [e] at h; cases h
theorem rparams_any (t : Tr) (p : Nat) (w : World) (h : NTr w t p) (hk : 1 ≤ t.kids.length) (hc : t.count ≤ 20000) :
  Calls Tryz.prog 56 #[nPtr p] w fun e w' => (∃ u, e = .returned u ∧ SRow w.heap.size w' u (onceL ((kid0 t).kids.map Tr.tx))) ∧ Below w.heap.size w w' := by
 have htc : t.count = 1 + Tr.counts t.kids := by cases t with | mk kd tx nn ks => exact count_mk _ _ _ _
 have hkl : t.kids.length ≤ 20000 := by have := counts_len t.kids; omega
 have hp0 : (kid0 t).kids.length ≤ 20000 := by
  rw [kid0_eq t (by omega)]; have h1 := counts_le t.kids 0 (by omega); have h2 : (t.kids[0]).count = 1 + Tr.counts (t.kids[0]).kids := by cases t.kids[0] with | mk kd tx nn ks => exact count_mk _ _ _ _
  have := counts_len (t.kids[0]).kids; omega
 obtain ⟨hpl, _, _, u, c3, hr⟩ := h.cells
 obtain ⟨g, cap, q, rfl, hg, hcq, hn⟩ := hr.cell 0 (by omega)
 rw [← kid0_eq t (by omega)] at hn
 obtain ⟨hql, _, _, u2, d3, hr2⟩ := hn.cells
 obtain ⟨a2, c2, rfl⟩ := hr2.form
 have HR := hide hr2
 clear h hr hn hr2 htc hc
 generalize (kid0 t).kids = ps at HR d3 hp0
 generalize t.kids.length = L at c3 hk hkl
 have hL0 : ¬ L = 0 := by omega
 go_enter Tryz.func56, Tryz.ntmps56
 go_wp2_with fail
 go_loopw [3, 16] (fun o j wr => ∃ k : Nat, k ≤ ps.length ∧ j = .int .i64 k ∧ SRow w.heap.size wr o (onceL ((ps.take k).map Tr.tx)) ∧ Below w.heap.size w wr) (fun _ j _ => ps.length - (intOf j).toNat)
 case atStart => exact ⟨0, Nat.zero_le _, rfl, srow_nil _ _, Below.refl _ _⟩
 case round =>
  obtain ⟨k, hk2, rfl, hown, hbel⟩ := hrel; have HOWN := hide hown; have HB := hide hbel; obtain ⟨oa, oc, rfl⟩ := srow_form hown; clear hown hbel c3 d3 hcq
  by_cases hlt : k < ps.length
  ·
   obtain ⟨g2, cap2, q2, hv, hg2, hcc, hn⟩ := (HR.out.later HB.out).cell k hlt; simp only [Value.slice.injEq] at hv; obtain ⟨rfl, _, rfl⟩ := hv; obtain ⟨hql2, _, q1, _⟩ := hn.cells
   have hki : (k : Int) < (ps.length : Int) := by omega
   have hfl2 : (onceL ((ps.take k).map Tr.tx)).length ≤ 20000 := by
    have h1 := once_len ((ps.take k).map Tr.tx); rw [List.length_map, List.length_take] at h1; omega
   have HTK : Hid (onceL ((ps.take (k + 1)).map Tr.tx) = addB (onceL ((ps.take k).map Tr.tx)) (ps[k]).tx) := by
    show _ = _
    rw [List.take_succ_eq_append_getElem hlt, List.map_append, onceL, List.foldl_append]; rfl
   have HC := hide (radd_any (onceL ((ps.take k).map Tr.tx)) (ps[k]).tx _ wr HOWN.out (by omega) HB.out.size)
   generalize (ps[k]).tx = y at q1 HC HTK
   generalize onceL ((ps.take k).map Tr.tx) = M at HC HTK HOWN hfl2
   clear hn; exact zbca
  ·
   have hii : k = ps.length := by omega
   subst hii; go_wp2_with fail; go_ret; refine ⟨⟨_, rfl, ?_⟩, HB.out⟩; have h := unhide HOWN; rw [List.take_length] at h; rw [List.take_length]; exact h
theorem sameT_any {B C : Nat} (l : List ByteArray) (u v : Value) (w : World) (h1 : SRow B w u l) (h2 : SRow C w v l) (hl : l.length ≤ 90000) :
  Calls Tryz.prog 18 #[u, v] w fun e w' => e = .returned (.bool true) ∧ Below w.heap.size w w' := by
 obtain ⟨ua, uc, rfl⟩ := srow_form h1
 obtain ⟨va, vc, rfl⟩ := srow_form h2
 have HR1 := hide h1
 have HR2 := hide h2
 clear h1 h2
 go_enter Tryz.func18, Tryz.ntmps18
 go_wp2_with fail
 go_loopw [5] (fun j wr => ∃ k : Nat, k ≤ l.length ∧ j = .int .i64 k ∧ Below w.heap.size w wr) (fun j _ => l.length - (intOf j).toNat)
 case atStart => exact ⟨0, Nat.zero_le _, rfl, Below.refl _ _⟩
 case round =>
  obtain ⟨k, hk, rfl, hb⟩ := hrel; have HB := hide hb; clear hb
  by_cases hlt : k < l.length
  ·
   obtain ⟨g1, p1, hv, hg1, _, hc1⟩ := srow_cell (SRow.later HR1.out HB.out) k hlt; simp only [Value.slice.injEq] at hv; obtain ⟨rfl, _, rfl⟩ := hv
   obtain ⟨g2, p2, hv, hg2, _, hc2⟩ := srow_cell (SRow.later HR2.out HB.out) k hlt; simp only [Value.slice.injEq] at hv; obtain ⟨rfl, _, rfl⟩ := hv; have hki : (k : Int) < (l.length : Int) := by omega
   generalize l[k] = x at hc1 hc2
   go_wp2_with fail; refine wp_region_held (S := fun X => X = wr.drew) (by kernel_rfl) ?_; change wpAnyH _ _ _ _ _ _ _ _ (World.drew _); refine wh 0 (.slice (some ⟨g1, 0, none⟩) l.length uc) rfl ?_
   refine wh 1 (.int .i64 k) rfl ?_; refine wh 2 (.pointer (some ⟨g1, k, none⟩)) rfl ?_; refine wh 3 (.string x) rfl ?_ (hy := Or.inl ⟨by kernel_rfl, fun X hX => by cases hX; go_simp⟩)
   refine wh 4 (.slice (some ⟨g2, 0, none⟩) l.length vc) rfl ?_; refine wh 5 (.int .i64 k) rfl ?_; refine wh 6 (.pointer (some ⟨g2, k, none⟩)) rfl ?_
   refine wh 7 (.string x) rfl ?_ (hy := Or.inl ⟨by kernel_rfl, fun X hX => by cases hX; go_simp⟩)
   refine wh 8 (.bool false) rfl ?_; refine wpAnyH_done (by kernel_rfl) ?_ _; go_simp; go_wp2_with fail
   go_roundw
   case rel => exact ⟨k + 1, by omega, by go_num, HB.out.drew⟩
   case measure => simp [intOf]; omega
  ·
   have hkk : k = l.length := by omega
   subst hkk; go_wp2_with fail; go_ret; exact ⟨rfl, HB.out⟩
mutual
def Ad.all : Ad → List Ad
 | .mk p kd tx n ks => .mk p kd tx n ks :: Ad.alls ks
def Ad.alls : List Ad → List Ad
 | [] => []
 | a :: es => a.all ++ Ad.alls es
end
theorem all_eq (a : Ad) : a.all = a :: Ad.alls a.ks := by cases a with | mk p kd tx n ks => rw [Ad.all]; rfl
theorem alls_app : ∀ a b : List Ad, Ad.alls (a ++ b) = Ad.alls a ++ Ad.alls b
 | [], b => by rw [Ad.alls]; rfl
 | x :: a, b => by rw [List.cons_append, Ad.alls, Ad.alls, alls_app a b, List.append_assoc]
mutual
theorem all_ads : ∀ a : Ad, a.all.map Ad.p = a.ads
 | .mk p kd tx n ks => by rw [Ad.all, Ad.ads, List.map_cons, alls_ads ks]; rfl
theorem alls_ads : ∀ es : List Ad, (Ad.alls es).map Ad.p = Ad.adss es
 | [] => by rw [Ad.alls, Ad.adss]; rfl
 | a :: es => by rw [Ad.alls, Ad.adss, List.map_append, all_ads a, alls_ads es]
end
theorem all_len (a : Ad) : a.all.length = a.ads.length := by rw [← all_ads a, List.length_map]
theorem all_ind {P : Ad → Prop} (hP : ∀ a, P a → ∀ k ∈ a.ks, P k) : ∀ (n : Nat) (a : Ad), a.cnt ≤ n → P a → ∀ x ∈ a.all, P x := by
 intro n
 induction n with
 | zero => intro a ha; have := cnt_pos a; omega
 | succ n ih =>
  intro a ha h x hx; rw [all_eq] at hx
  rcases List.mem_cons.1 hx with rfl | hx
  ·
   exact h
  ·
   have hcnt := cnt_eq a; have key : ∀ es : List Ad, Ad.cnts es ≤ n → (∀ k ∈ es, P k) → x ∈ Ad.alls es → P x := by
    intro es
    induction es with
    | nil => intro _ _ hh; rw [Ad.alls] at hh; cases hh
    | cons e es ih2 =>
     intro h1 h2 h3; rw [Ad.alls] at h3; rw [Ad.cnts] at h1
     rcases List.mem_append.1 h3 with h4 | h4
     ·
      exact ih e (by omega) (h2 e (by simp)) x h4
     ·
      exact ih2 (by omega) (fun k hk => h2 k (by simp [hk])) h4
   exact key a.ks (by omega) (hP a h) hx
theorem all_at {I : Nat → Prop} {w : World} {a : Ad} (h : AAt I w a) : ∀ x ∈ a.all, AAt I w x := all_ind (P := fun x => AAt I w x) (fun _ h => h.parts) a.cnt a (Nat.le_refl _) h
theorem all_ill {a : Ad} (h : a.tr.ill = 0) : ∀ x ∈ a.all, x.tr.ill = 0 := all_ind (P := fun x => x.tr.ill = 0) (fun _ h => ill_parts h) a.cnt a (Nat.le_refl _) h
theorem cnts_mem2 {x : Ad} : ∀ {es : List Ad}, x ∈ es → x.cnt ≤ Ad.cnts es
 | [], h => by cases h
 | e :: es, h => by
  rw [Ad.cnts]
  rcases List.mem_cons.1 h with rfl | h
  ·
   omega
  ·
   have := cnts_mem2 h; omega
theorem all_cnt {N : Nat} {a : Ad} (h : a.cnt ≤ N) : ∀ x ∈ a.all, x.cnt ≤ N := all_ind (P := fun x => x.cnt ≤ N) (fun b hb k hk => by have h1 := cnts_mem2 hk; have h2 := cnt_eq b; omega) a.cnt a (Nat.le_refl _) h
def bodyOf (a : Ad) (p : Nat) : Bool := isFunT a.tr && (match a.ks with | _ :: y :: _ => decide (y.p = p) | _ => false)
def rown (L : List Ad) (x : Ad) : List ByteArray := if x.kd = 6 ∧ L.any (fun y => bodyOf y x.p) = true then [] else onceL ((declT x.tr).map Tr.tx)
def rownsN (t : Ad) (at' : Int) : List ByteArray := if h : 0 ≤ at' ∧ at'.toNat < t.all.length then rown t.all (t.all[at'.toNat]'h.2) else []
theorem rown1 (L : List Ad) (x : Ad) (h : x.kd = 1) : rown L x = onceL ((letsT x.tr).map Tr.tx) := by
 have e := x.tr_eq.1
 unfold rown declT
 rw [e, h, if_neg (by intro hh; exact absurd hh.1 (by decide)), if_pos rfl]
theorem once_app (a b : List ByteArray) : onceL (a ++ b) = b.foldl addB (onceL a) := by rw [onceL, List.foldl_append]; rfl
theorem once_once_app (a b : List ByteArray) : onceL (onceL a ++ b) = onceL (a ++ b) := by rw [once_app, once_app, once_once]
theorem vn_body {t : Tr} (h : isFunT t = false) (h2 : t.kd ≠ 2) : (vn t).map Tr.tx = vws t.kids := by
 rw [vn_eq, if_neg (by simpa using h2), h, List.nil_append]
 exact vns_tx _
theorem rownF (L : List Ad) (x y z : Ad) (ks : List Ad) (h : isFunT x.tr = true) (hk : x.ks = y :: z :: ks) (hz : z.kd = 6) : rown L x = (namesT z.tr true).foldl addB (onceL (y.tr.kids.map Tr.tx)) := by
 obtain ⟨e, _, e3⟩ := x.tr_eq
 have ez := z.tr_eq.1
 have hkd : x.kd = 5 ∨ x.kd = 37 := by
  unfold isFunT at h; rw [e, Bool.or_eq_true, beq_iff_eq, beq_iff_eq] at h; exact h
 have h1 : x.kd ≠ 1 := by rcases hkd with h | h <;> rw [h] <;> decide
 have h6 : x.kd ≠ 6 := by rcases hkd with h | h <;> rw [h] <;> decide
 unfold rown declT
 rw [e, if_neg (by intro hh; exact h6 hh.1), if_neg h1, if_pos hkd, e3, hk]
 simp only [List.map_cons]
 have hv : (vn z.tr).map Tr.tx = vws z.tr.kids := vn_body (by unfold isFunT; rw [ez, hz]; rfl) (by rw [ez, hz]; decide)
 have e5 : ([y.tr.kids, vn z.tr, fnsT z.tr, letsT z.tr].flatten).map Tr.tx = y.tr.kids.map Tr.tx ++ (vws z.tr.kids ++ ((fnsT z.tr).map Tr.tx ++ (letsT z.tr).map Tr.tx)) := by simp [hv]
 have e6 : namesT z.tr true = onceL (vws z.tr.kids ++ ((fnsT z.tr).map Tr.tx ++ (letsT z.tr).map Tr.tx)) := by
  unfold namesT varsT; rw [if_pos rfl, List.append_assoc, once_once_app]
 rw [e5, once_app, e6, fold_once]
section
variable (L : List Ad) (x : Ad)
include L x
theorem rown6 (h : x.kd = 6) : rown L x = if L.any (fun y => bodyOf y x.p) = true then [] else namesT x.tr false := by
 have e := x.tr_eq.1
 unfold rown declT
 rw [e, h]
 by_cases hb : L.any (fun y => bodyOf y x.p) = true
 ·
  rw [if_pos ⟨rfl, hb⟩, if_pos hb]
 ·
  rw [if_neg (fun hh => hb hh.2), if_neg hb, if_neg (by decide), if_neg (by decide), if_pos rfl]; unfold namesT; simp
theorem rown13 (h : x.kd = 13) : rown L x = [x.tx] := by
 obtain ⟨e, e2, _⟩ := x.tr_eq
 unfold rown declT
 rw [e, h, if_neg (by intro hh; exact absurd hh.1 (by decide)), if_neg (by decide), if_neg (by decide), if_neg (by decide), if_pos rfl]
 simp [onceL, addB, hasB, e2]
theorem rownN (h1 : x.kd ≠ 1) (hf : isFunT x.tr = false) (h6 : x.kd ≠ 6) (h13 : x.kd ≠ 13) : rown L x = [] := by
 obtain ⟨e, _, _⟩ := x.tr_eq
 have hkd : ¬ (x.kd = 5 ∨ x.kd = 37) := by
  unfold isFunT at hf; rw [e] at hf; intro h
  rcases h with h | h <;> rw [h] at hf <;> cases hf
 unfold rown declT
 rw [e, if_neg (by intro hh; exact h6 hh.1), if_neg h1, if_neg hkd, if_neg h6, if_neg h13]
 rfl
end
theorem eql_ptr {W : World} {p q : Nat} (hp : Cl W p) (hq : Cl W q) : (binOp .eql 22 (nPtr p) (nPtr q)).run Tryz.prog W = .ok (.bool (decide (p = q))) W := by
 have h1 := eq_ptr hp hq
 simp only [binOp]
 simp [h1, Result.andThen]
theorem fl_len (t : Tr) : (fnsT t).length + (letsT t).length ≤ t.kids.length := by
 unfold fnsT letsT
 induction t.kids with
 | nil => simp
 | cons k ks ih =>
  rw [List.filter_cons, List.filter_cons]; have hx : ¬ (isFnT k = true ∧ isLetT k = true) := by
   unfold isFnT isLetT; intro h; simp at h; omega
  cases h1 : isFnT k <;> cases h2 : isLetT k <;> simp [h1, h2] at hx ⊢ <;> omega
structure RowA (I : Nat → Prop) (w1 : World) (v : Value) (L : List Ad) (g cap : Nat) : Prop where
 form : v = .slice (some ⟨g, 0, none⟩) L.length cap
 lt : g < w1.heap.size
 cell : ∀ j (hj : j < L.length), w1.cell? ⟨g, j, none⟩ = some (nPtr (L[j]).p)
 at' : ∀ x ∈ L, AAt I w1 x
 ill : ∀ x ∈ L, x.tr.ill = 0
 cnt : ∀ x ∈ L, x.cnt ≤ 20000
theorem rowns_any {I : Nat → Prop} (t : Ad) (at' : Int) (w : World) (ht : AAt I w t) (hi : t.tr.ill = 0) (hc : t.cnt ≤ 20000) (hbl : ∀ x ∈ t.all, ∀ y z ks, isFunT x.tr = true → x.ks = y :: z :: ks → z.kd = 6) :
  Calls Tryz.prog 34 #[nPtr t.p, .int .i64 at'] w fun e w' => (∃ u, e = .returned (.tuple #[u, .bool (decide (0 < (rownsN t at').length))]) ∧ SRow w.heap.size w' u (rownsN t at')) ∧ Below w.heap.size w w' := by
 have HA := hide (allA_any t.cnt t (Nat.le_refl _) w ht (by omega))
 have HAT := hide (all_at ht)
 have HIL := hide (all_ill hi)
 have HCN := hide (all_cnt hc)
 have hlen : t.all.length ≤ 20000 := by rw [all_len, Ad.ads_len]; exact hc
 have HADS := hide (all_ads t)
 have HBL := hide hbl
 have HRN : Hid (rownsN t at' = if h : 0 ≤ at' ∧ at'.toNat < t.all.length then rown t.all (t.all[at'.toNat]'h.2) else []) := rfl
 have hpos : 0 < t.all.length := by rw [all_eq]; simp
 generalize rownsN t at' = R at HRN ⊢
 rw [← HADS.out] at HA
 generalize t.all = L at *
 generalize t.p = p at HA ⊢
 clear ht hi hc HADS hbl
 go_enter Tryz.func34, Tryz.ntmps34
 go_wp2_with fail
 refine cm HA.out ?_
 rintro e w1 ⟨⟨v, rfl, hv⟩, hb1⟩
 obtain ⟨g, cap, hvv, hcl⟩ := row_open hv (by rw [List.length_map]; exact hpos)
 have hgl0 := (own_lt hv g (by rw [hvv]; rfl)).1
 rw [List.length_map] at hvv
 subst hvv
 have HRA : Hid (RowA I w1 (.slice (some ⟨g, 0, none⟩) L.length cap) L g cap) := ⟨rfl, hgl0, fun j hj => by have h := hcl j (by rw [List.length_map]; exact hj); simpa using h, fun x hx => AAt.later (fun b _ hl => hb1.block b hl) _ (unhide HAT x hx), HIL.out, HCN.out⟩
 have HB1 := hide hb1
 clear hv hcl hb1 hgl0 HA HAT HIL HCN
 by_cases h0 : at' < 0
 ·
  have hR : R = [] := by rw [HRN.out, dif_neg (by omega)]
  subst hR; exact zbfl
 ·
  by_cases h1 : (L.length : Int) ≤ at'
  ·
   have hR : R = [] := by rw [HRN.out, dif_neg (by omega)]
   subst hR; have h2 : at' ≥ (L.length : Int) := h1; exact zbfl
  ·
   obtain ⟨j, rfl⟩ : ∃ j : Nat, at' = (j : Int) := ⟨at'.toNat, by omega⟩; have hj : j < L.length := by omega
   have hR : R = rown L L[j] := by rw [HRN.out, dif_pos ⟨by omega, by simpa using hj⟩]; rfl
   have c0 := HRA.out.cell j hj; have hgl := HRA.out.lt; obtain ⟨x, hxe⟩ : ∃ x, L[j] = x := ⟨_, rfl⟩; have hxm : x ∈ L := hxe ▸ List.getElem_mem hj; rw [hxe] at c0 hR; have hx := HRA.out.at' x hxm
   obtain ⟨_, hpl, d0, d1, _⟩ := hx.cells; have HX := hide hx; have HR := hide hR; have HNT := hide hx.nat.nt; have hcx := HRA.out.cnt x hxm; have htc := x.cnt_tr; have hkl : x.tr.kids.length ≤ 20000 := by
    have h1 := counts_len x.tr.kids; have h3 : x.tr.count = 1 + Tr.counts x.tr.kids := by cases x.tr with | mk kd tx n ks => exact count_mk _ _ _ _
    omega
   have hge : ¬ ((j : Int) ≥ (L.length : Int)) := by omega
   have hj2 : (j : Int) < (L.length : Int) := by omega
   have HFIN : Hid (∀ (M : List ByteArray) (a : Option Addr) (c : Nat) (W : World), R = M → SRow w.heap.size W (.slice a M.length c) M → Below w.heap.size w W → (∃ u, Ending.returned (.tuple #[.slice a M.length c, .bool (decide (0 < M.length))]) = .returned (.tuple #[u, .bool (decide (0 < R.length))]) ∧ SRow w.heap.size W u R) ∧ Below w.heap.size w W) := by
    intro M a c W hM hs hb; subst hM; exact ⟨⟨_, rfl, hs⟩, hb⟩
   have HXM := hide hxm; have HCX := hide hcx; have HTC := hide htc; clear hx hR hxm hcx htc hxe
   by_cases hk1 : x.kd = 1
   ·
    have HR2 := hide (HR.out.trans (rown1 L _ hk1)); have HLT := hide (rlets_any x.tr x.p w1 w1 HNT.out (Below.refl _ _) hkl); have hll := lets_len x.tr; rw [hk1] at d0
    generalize letsT x.tr = ls at HLT hll HR2
    generalize x.p = q at c0 d0 d1 hpl HLT
    clear HR HX HNT hk1 HBL HRN d1; go_wp2_with fail; refine cm HLT.out ?_; rintro e w2 ⟨⟨u, rfl, hr2⟩, hb2⟩; obtain ⟨ua, uc, rfl⟩ := hr2.form; have HRW := hide (hr2.row hb2); have hs1 := HB1.out.size; have hs2 := hb2.size
    have HB2 := hide (HB1.out.trans (hb2.mono hs1)); clear HLT hr2 hb2; go_wp2_with fail
    go_loopw [7, 38] (fun o i wr => ∃ k : Nat, k ≤ ls.length ∧ i = .int .i64 k ∧ SRow w.heap.size wr o (onceL ((ls.take k).map Tr.tx)) ∧ Below w2.heap.size w2 wr) (fun _ i _ => ls.length - (intOf i).toNat)
    case atStart => exact ⟨0, Nat.zero_le _, rfl, srow_nil _ _, Below.refl _ _⟩
    case round =>
     obtain ⟨k, hk2, rfl, hown, hbel⟩ := hrel; have HOWN := hide hown; have HB := hide hbel; have hs3 := hbel.size; obtain ⟨oa, oc, rfl⟩ := srow_form hown; clear hown hbel
     by_cases hlt : k < ls.length
     ·
      obtain ⟨g2, cap2, q2, hv, hg2, hcc, hn⟩ := (HRW.out.later HB.out).cell k hlt; simp only [Value.slice.injEq] at hv; obtain ⟨rfl, _, rfl⟩ := hv; obtain ⟨hql2, _, q1, _⟩ := hn.cells
      have hki : (k : Int) < (ls.length : Int) := by omega
      have hfl2 : (onceL ((ls.take k).map Tr.tx)).length ≤ 20000 := by
       have h1 := once_len ((ls.take k).map Tr.tx); rw [List.length_map, List.length_take] at h1; omega
      have HTK : Hid (onceL ((ls.take (k + 1)).map Tr.tx) = addB (onceL ((ls.take k).map Tr.tx)) (ls[k]).tx) := by
       show _ = _
       rw [List.take_succ_eq_append_getElem hlt, List.map_append, onceL, List.foldl_append]; rfl
      have HC := hide (radd_any (onceL ((ls.take k).map Tr.tx)) (ls[k]).tx _ wr HOWN.out (by omega) (by omega))
      generalize (ls[k]).tx = y at q1 HC HTK
      generalize onceL ((ls.take k).map Tr.tx) = M at HC HTK HOWN hfl2
      clear hn c0 d0; exact zbca
     ·
      have hii : k = ls.length := by omega
      subst hii; rw [List.take_length] at HOWN ⊢
      generalize onceL (ls.map Tr.tx) = M at HOWN HR2 ⊢
      have HBX := hide (HB2.out.trans (HB.out.mono (by omega))); clear c0 d0; go_wp2_with fail
      go_ret2
      exact unhide HFIN M _ _ _ HR2.out HOWN.out HBX.out
   ·
    by_cases hf : isFunT x.tr = true
    ·
     obtain ⟨y, z, ks, hks⟩ := two_kids (HRA.out.ill x HXM.out) hf; have HR2 := hide (HR.out.trans (rownF L x y z ks hf hks (unhide HBL x HXM.out y z ks hf hks)))
     obtain ⟨g2, cap2, c3, hgl2, e0, e1, hy, hz⟩ := HX.out.two hks; have HF := hide (risFunc_any x.tr x.p w1 HNT.out); rw [hf] at HF; have hk0 : kid0 x.tr = y.tr := by unfold kid0; rw [x.tr_eq.2.2, hks]; rfl
     have HP := hide (rparams_any x.tr x.p w1 HNT.out (by rw [x.tr_eq.2.2, hks]; simp) (by rw [HTC.out]; exact HCX.out))
     rw [hk0] at HP; have hcz : z.tr.count ≤ 20000 := by
      have h1 := unhide HCX; have h2 := cnt_eq x; rw [hks, Ad.cnts, Ad.cnts] at h2; rw [z.cnt_tr]; omega
     have hcy : (y.tr.kids.map Tr.tx).length ≤ 20000 := by
      have h1 := unhide HCX; have h2 := cnt_eq x; rw [hks, Ad.cnts, Ad.cnts] at h2; have h3 := y.cnt_tr; have h4 := counts_len y.tr.kids
      have h5 : y.tr.count = 1 + Tr.counts y.tr.kids := by cases y.tr with | mk kd tx n ks => exact count_mk _ _ _ _
      rw [List.length_map]; omega
     have hnl : (namesT z.tr true).length ≤ 40000 := by
      have h1 : (namesT z.tr true).length ≤ _ := once_len _; rw [List.length_append, List.length_append, List.length_map, List.length_map, if_pos rfl] at h1; have h2 := fns_len z.tr; have h3 := lets_len z.tr
      have h4 := vars_len z.tr; have h5 : z.tr.count = 1 + Tr.counts z.tr.kids := by cases z.tr with | mk kd tx n ks => exact count_mk _ _ _ _
      have h6 := counts_len z.tr.kids; have h7 : (fnsT z.tr).length + (letsT z.tr).length ≤ z.tr.kids.length := fl_len z.tr; omega
     have HNM := hide (fun W (hW : Below w1.heap.size w1 W) => rnames_any z.tr z.p true W (hz.nat.nt.later hW) hcz); have hpl0 := once_len (y.tr.kids.map Tr.tx)
     generalize onceL (y.tr.kids.map Tr.tx) = P at HP HR2 hpl0
     generalize namesT z.tr true = nm at HNM HR2 hnl
     obtain ⟨_, hzl, _⟩ := hz.cells
     generalize z.p = pz at *
     generalize x.p = q at *
     generalize x.kd = kd at *
     clear HR HX HNT HBL HRN d1 hy hz hf hks e0 hcz hk0; go_wp2_with fail; refine cm HF.out ?_; rintro e w1' ⟨rfl, rfl⟩; clear HF; go_wp2_with fail; refine cm HP.out ?_; rintro e w2 ⟨⟨u2, rfl, hr2⟩, hb2⟩
     have hs1 := HB1.out.size; have hs2 := hb2.size; have HR3 := hide (owns_lower hr2 hs1); have HB2 := hide hb2; obtain ⟨a2, k2, rfl⟩ := srow_form hr2; have f3 := keepC hb2 c3; have f1 := keepC hb2 e1
     have HC := hide (unhide HNM w2 hb2); clear HP HNM hr2 hb2 c0 c3 e1 d0; go_wp2_with fail; refine cm HC.out ?_; rintro e w3 ⟨⟨u3, rfl, hr3⟩, hb3⟩; have hs3 := hb3.size; have HN3 := hide hr3
     have HP3 := hide (SRow.later HR3.out hb3); have HB3 := hide (HB1.out.trans ((HB2.out.trans (hb3.mono hs2)).mono hs1)); obtain ⟨a3, k3, rfl⟩ := srow_form hr3; clear HC hr3 hb3 f3 f1 HR3 HB2; go_wp2_with fail
     go_loopw [7, 62] (fun o i wr => ∃ k : Nat, k ≤ nm.length ∧ i = .int .i64 k ∧ SRow w.heap.size wr o ((nm.take k).foldl addB P) ∧ Below w3.heap.size w3 wr) (fun _ i _ => nm.length - (intOf i).toNat)
     case atStart => exact ⟨0, Nat.zero_le _, rfl, HP3.out, Below.refl _ _⟩
     case round =>
      obtain ⟨k, hk2, rfl, hown, hbel⟩ := hrel; have HOWN := hide hown; have HB := hide hbel; have hs4 := hbel.size; obtain ⟨oa, oc, rfl⟩ := srow_form hown; clear hown hbel
      by_cases hlt : k < nm.length
      ·
       obtain ⟨g4, cap4, hv, hg4, hcc⟩ := srow_cell (SRow.later HN3.out HB.out) k hlt; simp only [Value.slice.injEq] at hv; obtain ⟨rfl, _, rfl⟩ := hv; have hki : (k : Int) < (nm.length : Int) := by omega
       have hfl2 : ((nm.take k).foldl addB P).length ≤ 60000 := by
        have h1 := fold_len (nm.take k) P; rw [List.length_take] at h1; omega
       have HTK : Hid ((nm.take (k + 1)).foldl addB P = addB ((nm.take k).foldl addB P) nm[k]) := by
        show _ = _
        rw [List.take_succ_eq_append_getElem hlt, List.foldl_append]; rfl
       have HC := hide (radd_any ((nm.take k).foldl addB P) nm[k] _ wr HOWN.out (by omega) (by omega))
       generalize nm[k] = y at hcc HC HTK
       generalize (nm.take k).foldl addB P = M at HC HTK HOWN hfl2
       exact zbca
      ·
       have hii : k = nm.length := by omega
       subst hii; rw [List.take_length] at HOWN ⊢
       generalize nm.foldl addB P = M at HOWN HR2 ⊢
       have HBX := hide (HB3.out.trans (HB.out.mono (by omega))); go_wp2_with fail
       go_ret2
       exact unhide HFIN M _ _ _ HR2.out HOWN.out HBX.out
    ·
     have hf2 : isFunT x.tr = false := by simpa using hf
     have HF := hide (risFunc_any x.tr x.p w1 HNT.out); rw [hf2] at HF
     by_cases hk13 : x.kd = 13
     ·
      have HR2 := hide (HR.out.trans (rown13 L _ hk13)); rw [hk13] at d0
      generalize x.tx = tx at d1 HR2
      generalize x.p = q at *
      clear HR HX HNT HBL HRN hf hf2 hk13; go_wp2_with fail; refine cm HF.out ?_; rintro e w1' ⟨rfl, rfl⟩; clear HF; go_wp2_with fail
      go_ret2
      have hs1 := HB1.out.size
      have hL3 : SRow w.heap.size (w1'.alloc (.cells #[.string tx] 9)) (.slice (some ⟨w1'.heap.size, 0, none⟩) 1 1) [tx] := ⟨rfl, Or.inr ⟨w1'.heap.size, 1, #[.string tx], rfl, hs1, heap_new _ _, Nat.le_refl _, by decide, rfl, rfl⟩⟩
      exact unhide HFIN [tx] _ _ _ HR2.out hL3 (HB1.out.alloc hs1 _)
     ·
      by_cases hk6 : x.kd = 6
      ·
       have HR2 := hide (HR.out.trans (rown6 L _ hk6)); rw [hk6] at d0; have HNM := hide (rnames_any x.tr x.p false w1 HNT.out (by rw [HTC.out]; exact HCX.out))
       have HCLX := hide HX.out.cl; have HLEN := hide hlen
       generalize namesT x.tr false = nm at HNM HR2
       generalize x.p = q at *
       clear HR HX HNT HBL HRN hf hf2 hk6; go_wp2_with fail; refine cm HF.out ?_; rintro e w1' ⟨rfl, rfl⟩; clear HF; go_wp2_with fail
       go_loopw [89] (fun i wr => ∃ k : Nat, k ≤ L.length ∧ i = .int .i64 k ∧ ((L.take k).any fun y => bodyOf y q) = false ∧ wr = w1') (fun i _ => L.length - (intOf i).toNat)
       case atStart => exact ⟨0, Nat.zero_le _, rfl, rfl, rfl⟩
       case round =>
        obtain ⟨k, hk2, rfl, hany, hw⟩ := hrel; obtain rfl : w1' = wr := hw.symm; have HANY := hide hany; clear hw hany
        by_cases hlt : k < L.length
        ·
         have hki : (k : Int) < (L.length : Int) := by omega
         have cy := HRA.out.cell k hlt; obtain ⟨y, hye⟩ : ∃ y, L[k] = y := ⟨_, rfl⟩; have hym : y ∈ L := hye ▸ List.getElem_mem hlt; rw [hye] at cy; have hay := HRA.out.at' y hym
         have HTK : Hid (((L.take (k + 1)).any fun y => bodyOf y q) = bodyOf y q) := by
          show _ = _
          rw [List.take_succ_eq_append_getElem hlt, hye, List.any_append, HANY.out]; simp
         have HG := hide (risFunc_any y.tr y.p w1' hay.nat.nt)
         by_cases hf : isFunT y.tr = true
         ·
          obtain ⟨a, b, ks, hks⟩ := two_kids (HRA.out.ill y hym) hf; obtain ⟨g2, cap2, c3, hgl2, e0, e1, ha, hb⟩ := hay.two hks; have hbo : bodyOf y q = decide (b.p = q) := by unfold bodyOf; rw [hf, hks]; rfl
          have heq := eql_ptr hb.cl HCLX.out; obtain ⟨_, hyl, _⟩ := hay.cells; rw [hf] at HG; have HMEM := hide hym; have HYE := hide hye
          generalize y.p = py at *
          generalize b.p = pb at *
          have HBO := hide hbo; clear c0 d0 d1 e0 ha hb hks hf hay hym hye hbo
          by_cases hpb : pb = q
          ·
           have hR : R = [] := by
            rw [HR2.out, if_pos]; rw [List.any_eq_true]; exact ⟨y, HMEM.out, by rw [HBO.out, decide_eq_true hpb]⟩
           rw [decide_eq_true hpb] at heq; subst hR hpb; go_wp2_with fail; refine cm HG.out ?_; rintro e w2' ⟨rfl, rfl⟩; clear HG; exact zbfl
          ·
           rw [decide_eq_false hpb] at heq; have HT2 : Hid (((L.take (k + 1)).any fun y => bodyOf y q) = false) := by
            show _ = _
            rw [HTK.out, HBO.out, decide_eq_false hpb]
           exact zbeb
         ·
          have hf2 : isFunT y.tr = false := by simpa using hf
          have HT2 : Hid (((L.take (k + 1)).any fun y => bodyOf y q) = false) := by
           show _ = _
           rw [HTK.out]; unfold bodyOf; rw [hf2]; rfl
          rw [hf2] at HG
          generalize y.p = py at *
          clear c0 d0 d1 hf hf2 hay hym hye; exact zbeb
        ·
         have hii : k = L.length := by omega
         subst hii; rw [List.take_length] at HANY; have HR3 : Hid (R = nm) := by
          show _ = _
          rw [HR2.out, if_neg (by rw [HANY.out]; decide)]
         clear c0 d0 d1; go_wp2_with fail; refine cm HNM.out ?_; rintro e w3 ⟨⟨u3, rfl, hr3⟩, hb3⟩; have hs1 := HB1.out.size; have HR4 := hide (owns_lower hr3 hs1); have HB3 := hide (HB1.out.trans (hb3.mono hs1))
         obtain ⟨a3, k3, rfl⟩ := srow_form hr3; clear HNM hr3 hb3; go_wp2_with fail
         go_ret2
         exact unhide HFIN nm _ _ _ HR3.out HR4.out HB3.out
      ·
       have HR2 := hide (HR.out.trans (rownN L _ hk1 hf2 hk6 hk13))
       generalize x.p = q at *
       generalize x.kd = kd at *
       clear HR HX HNT HBL HRN hf hf2; go_wp2_with fail; refine cm HF.out ?_; rintro e w1' ⟨rfl, rfl⟩; clear HF; go_wp2_with fail
       go_ret2
       exact unhide HFIN [] _ _ _ HR2.out (srow_nil _ _) HB1.out
end Go.Proofs.YtoimgcjbcbhclaaGreatDoor
