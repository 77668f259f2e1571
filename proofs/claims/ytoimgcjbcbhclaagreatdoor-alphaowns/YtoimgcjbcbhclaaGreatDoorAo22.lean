/-
  The var nodes of a function's block (alpha.vars).
-/
import Derived.Test.YtoimgcjbcbhclaaGreatDoorAo21
set_option maxRecDepth 100000
set_option maxHeartbeats 16000000
namespace Go.Proofs.YtoimgcjbcbhclaaGreatDoor
open Go.RowKit
mutual
def vn : Tr → List Tr
 | .mk kd tx n ks => (if kd == 2 then [.mk kd tx n ks] else []) ++ (if kd == 5 || kd == 37 then [] else vns ks)
def vns : List Tr → List Tr
 | [] => []
 | t :: ts => vn t ++ vns ts
end
theorem vn_eq (t : Tr) : vn t = (if t.kd == 2 then [t] else []) ++ (if isFunT t then [] else vns t.kids) := by
 cases t with
 | mk kd tx n ks => rw [vn]; rfl
mutual
theorem vn_tx : ∀ t : Tr, (vn t).map Tr.tx = vw t
 | .mk kd tx n ks => by
  rw [vn, vw, List.map_append]
  congr 1
  ·
   split <;> rfl
  ·
   split
   ·
    rfl
   ·
    exact vns_tx ks
theorem vns_tx : ∀ ts : List Tr, (vns ts).map Tr.tx = vws ts
 | [] => by rw [vns, vws]; rfl
 | t :: ts => by rw [vns, vws, List.map_append, vn_tx t, vns_tx ts]
end
mutual
theorem vn_len : ∀ t : Tr, (vn t).length ≤ t.count
 | .mk kd tx n ks => by
  rw [vn, List.length_append, count_mk]; have h := vns_len ks; have h1 : (if kd == 2 then [Tr.mk kd tx n ks] else []).length ≤ 1 := by split <;> simp
  have h2 : (if kd == 5 || kd == 37 then [] else vns ks).length ≤ Tr.counts ks := by split <;> simp [h]
  omega
theorem vns_len : ∀ ts : List Tr, (vns ts).length ≤ Tr.counts ts
 | [] => by rw [vns]; simp
 | t :: ts => by
  rw [vns, List.length_append, counts_cons]; have h1 := vn_len t; have h2 := vns_len ts; omega
end
def vrF (l : List Tr) (a : Ad) : List Tr × Bool := (l ++ (if a.kd == 2 then [a.tr] else []), !isFunT a.tr)
mutual
theorem vr_wk : ∀ (a : Ad) (l : List Tr), wk vrF l a = l ++ vn a.tr
 | .mk p kd tx n ks, l => by
  rw [wk, vn_eq]; have e1 : (vrF l (.mk p kd tx n ks)).2 = !isFunT (Ad.mk p kd tx n ks).tr := rfl
  have e2 : (vrF l (.mk p kd tx n ks)).1 = l ++ (if (Ad.mk p kd tx n ks).tr.kd == 2 then [(Ad.mk p kd tx n ks).tr] else []) := rfl; have e3 : (Ad.mk p kd tx n ks).tr.kids = Ad.trs ks := rfl
  by_cases h : isFunT (Ad.mk p kd tx n ks).tr = true
  ·
   rw [e1, h, if_neg (by decide), if_pos rfl, e2, List.append_nil]
  ·
   rw [e1, if_pos (by simpa using h), if_neg h, vrs_wk ks, e2, e3, List.append_assoc]
theorem vrs_wk : ∀ (es : List Ad) (l : List Tr), wks vrF l es = l ++ vns (Ad.trs es)
 | [], l => by rw [wks, Ad.trs, vns, List.append_nil]
 | a :: es, l => by rw [wks, Ad.trs, vns, vr_wk a l, vrs_wk es, List.append_assoc]
end
structure VBox (I : Nat → Prop) (b : Nat) (l : List Tr) (w : World) : Prop where
 sz : b + 1 ≤ w.heap.size
 own : ∃ v ps, w.heap[b]? = some (.cells #[v] 46 (0, 0)) ∧ w.ownsRow (b + 1) 22 1 v ps.length (ps.map nPtr) ∧ NLs I w l ps
theorem isFunA_any {I : Nat → Prop} {t : Ad} {w : World} (ht : AAt I w t) : Calls Tryz.prog 130 #[nPtr t.p] w fun e w' => e = .returned (.bool (isFunT t.tr)) ∧ w' = w := by
 obtain ⟨_, hpl, c0, _, _⟩ := ht.cells
 obtain ⟨e1, _, _⟩ := t.tr_eq
 unfold isFunT
 rw [e1]
 generalize t.p = p at hpl c0 ⊢
 generalize t.kd = kd at c0 ⊢
 clear ht e1
 go_enter Tryz.func130, Tryz.ntmps130
 cases h5 : (kd == 5) with
 | true =>
  go_wp2_with fail; go_ret; exact ⟨rfl, rfl⟩
 | false =>
  go_wp2_with fail; go_ret; exact ⟨rfl, rfl⟩
theorem vars1A_any {I : Nat → Prop} {b : Nat} {l : List Tr} {t : Ad} {w : World} (hI : ∀ x, I x → x < b) (hV : VBox I b l w) (ht : AAt I w t) (hl : l.length ≤ 90000) :
  Calls Tryz.prog 274 #[nPtr t.p, .pointer (some ⟨b, 0, none⟩)] w fun e w' => e = .returned (.bool (vrF l t).2) ∧ VBox I b (vrF l t).1 w' ∧ Ap b (b + 1) w w' := by
 obtain ⟨i0, hi0, hz0, hz1, hz2⟩ := info_parts info22
 obtain ⟨hpb, hpl, c0, _, _⟩ := ht.cells
 have hN := ht.nat
 obtain ⟨e1, _, _⟩ := t.tr_eq
 obtain ⟨hsz, v, ps, hb, hown, hls⟩ := hV
 have hps : ps.length ≤ 90000 := by rw [NLs.length _ _ hls]; exact hl
 obtain ⟨oa, oc, rfl⟩ := srow_form hown
 have cb : w.cell? ⟨b, 0, none⟩ = some (.slice oa ps.length oc) := by rw [Lib.cell_of_heap hb]; rfl
 have fb : w.frozen? ⟨b, 0, none⟩ = false := Lib.frozen_of_heap hb 0
 unfold vrF
 simp only
 cases h2 : (t.kd == 2) with
 | false =>
  have HF := hide (isFunA_any ht); have HV : Hid (VBox I b l w) := ⟨hsz, _, ps, hb, hown, hls⟩
  generalize isFunT t.tr = fb2 at HF ⊢
  generalize t.p = p at hpl c0 HF hpb ⊢
  generalize t.kd = kd at c0 h2
  clear hN hls hown hb ht cb fb e1; go_enter Tryz.func274, Tryz.ntmps274; go_wp2_with fail; refine cm HF.out ?_; rintro e w1 ⟨rfl, rfl⟩; clear HF; go_wp2_with fail; go_ret; exact ⟨rfl, HV.out, Ap.refl _ _ _⟩
 | true =>
  have HII := hide hI; clear hI; have HFA := hide (fun (W : World) (h : AAt I W t) => isFunA_any h); have HT := hide ht; have HN := hide hN; have HLS := hide hls; have HO := hide hown; have HB := hide hb
  have HOB := hide (own_lt hown); have hne : ∀ g, (Value.slice oa ps.length oc).ownBlock = some g → g ≠ b := fun g hg => by have := (own_lt hown g hg).2; omega
  have HNE := hide hne
  generalize isFunT t.tr = fb2 at HFA ⊢
  obtain ⟨x, hx⟩ : ∃ x, x = t.tr := ⟨_, rfl⟩; rw [← hx] at HN ⊢; obtain ⟨p, hp⟩ : ∃ p, p = t.p := ⟨_, rfl⟩; have HP := hide hp; rw [← hp] at hpl c0 HN hpb HFA ⊢
  generalize t.kd = kd at c0 h2
  clear hN hls hown hb ht e1 hx hp hne; go_enter Tryz.func274, Tryz.ntmps274
  go_wp2_with (at_builtin; refine wpList_append_lies _ rfl _ _ 46 rfl (b + 1) 22 i0 (.pointer none) 1 8 Tryz.underlying46 hi0 hz0 hz1 hz2 rfl (by decide) _ _ _ rfl (HO.out.alloc _) ⟨w.heap.size, 0, none⟩ 1 1 [nPtr p] rfl rfl (one_cells w p _ rfl) (one_one p) (by decide) (by unfold maxLen; omega) (by omega) (by simp; omega) (w.heap.size + 1) (by simp) ?_)
  intro g' cap' w3 hown' hgrow hg' _; have hA3 : Ap b (b + 1) w w3 := by
   have h1 : Ap b (b + 1) w (w.alloc (.cells #[nPtr p] 22)) := Ap.alloc (Ap.refl _ _ _) hsz _; exact Ap.grown h1 hgrow (by simp; omega) (fun k hk => (unhide HOB k hk).2)
  have hb3 : w3.heap[b]? = some (.cells #[.slice oa ps.length oc] 46 (0, 0)) := by
   rw [hgrow.block b (by simp; omega) (fun e => unhide HNE b e.symm rfl), Below.heap_alloc w _ b (by omega)]
   exact unhide HB
  have d0 : w3.cell? ⟨b, 0, none⟩ = some (.slice oa ps.length oc) := by rw [Lib.cell_of_heap hb3]; rfl
  have f0 : w3.frozen? ⟨b, 0, none⟩ = false := Lib.frozen_of_heap hb3 0
  have hA4 : Ap b (b + 1) w (w3.setCell ⟨b, 0, none⟩ (.slice (some ⟨g', 0, none⟩) (ps.length + 1) cap')) := hA3.setCell (p := ⟨b, 0, none⟩) (Or.inr rfl) _; have hgb : b + 1 ≤ g' := (own_lt hown' g' rfl).2
  have hst : Stay I w (w3.setCell ⟨b, 0, none⟩ (.slice (some ⟨g', 0, none⟩) (ps.length + 1) cap')) := fun k hk hl => hA4.block k (by have := unhide HII k hk; omega) (by have := unhide HII k hk; omega)
  have HV4 : Hid (VBox I b (l ++ [x]) (w3.setCell ⟨b, 0, none⟩ (.slice (some ⟨g', 0, none⟩) (ps.length + 1) cap'))) := by
   refine ⟨by have := hA4.size; omega, .slice (some ⟨g', 0, none⟩) (ps.length + 1) cap', ps ++ [p], ?_, ?_, NLs.append (NLs.cons (NAt.later hst _ _ HN.out) NLs.nil) _ _ (NLs.later hst _ _ HLS.out)⟩
   ·
    simp [World.setCell, Array.getElem?_modify, hb3]
   ·
    have h5 : w3.ownsRow (b + 1) 22 1 (.slice (some ⟨g', 0, none⟩) (ps.length + 1) cap') (ps ++ [p]).length ((ps ++ [p]).map nPtr) := by
     rw [List.length_append, List.map_append]; exact hown'
    exact owns_stay (I := fun k => k ≠ b) (fun k hk _ => Below.heap_setCell _ _ _ _ (fun e => hk e)) (fun g hg => by simp [Value.ownBlock] at hg; omega) h5
  have HAA : Hid (AAt I (w3.setCell ⟨b, 0, none⟩ (.slice (some ⟨g', 0, none⟩) (ps.length + 1) cap')) t) := AAt.later hst _ HT.out; have HF := hide (HFA.out _ HAA.out); have HA4 := hide hA4
  clear hown' hgrow hg' hA3 hb3 hA4 hst hgb; go_wp2_with fail; refine cm HF.out ?_; rintro e w5 ⟨rfl, rfl⟩; clear HF; go_wp2_with fail; go_ret; exact ⟨rfl, HV4.out, HA4.out⟩
theorem en274 : ∀ args W, (callFunc 274 args).run Tryz.prog W = .ok (.enter 274 args) W := fun _ _ => by kernel_rfl
theorem varsA_any {I : Nat → Prop} (t : Ad) (w : World) (ht : AAt I w t) (hc : t.cnt ≤ 20000) :
  Calls Tryz.prog 217 #[nPtr t.p] w fun e w' => (∃ u, e = .returned u ∧ NRowI I w.heap.size w' u (vn t.tr)) ∧ Below w.heap.size w w' := by
 obtain ⟨w2, hw2⟩ : ∃ w2, w2 = w.alloc (.cells #[.slice none 0 0] 46) := ⟨_, rfl⟩
 have hb2 : Below w.heap.size w w2 := by rw [hw2]; exact (Below.refl _ _).alloc (Nat.le_refl _) _
 have hV : VBox (fun b => I b ∧ b < w.heap.size) w.heap.size [] w2 := by
  refine ⟨by rw [hw2]; simp, .slice none 0 0, [], by rw [hw2]; exact heap_new _ _, ⟨rfl, Or.inl ⟨rfl, rfl⟩⟩, NLs.nil⟩
 have HC := hide (walkG 274 (.pointer (some ⟨w.heap.size, 0, none⟩)) (fun b => I b ∧ b < w.heap.size) (Ap w.heap.size (w.heap.size + 1)) (VBox (fun b => I b ∧ b < w.heap.size) w.heap.size) vrF (fun l ts => l.length + Ad.cnts ts ≤ 20000) en274 (fun W => by kernel_rfl)
  (fun _ _ _ h k => h.trans k) (fun w w' h => ⟨fun b hb _ => h.block b (Nat.lt_succ_of_lt hb.2) (Nat.ne_of_lt hb.2), h.size⟩)
  (fun l t ts h => by
   rw [Ad.cnts] at h; have h1 := cnt_eq t; have h2 : (vrF l t).1.length ≤ l.length + 1 := by unfold vrF; simp only [List.length_append]; split <;> simp
   rw [cnts_app]
   split
   ·
    omega
   ·
    rw [Ad.cnts]; omega)
  (fun l t ts w' h hI hA => vars1A_any (fun _ hx => hx.2) hI hA (by omega))
  t.cnt t (Nat.le_refl _) (by omega) [] [] w2 (by rw [Ad.cnts, Ad.cnts]; simp; omega) hV
  (AAt.later (I := fun b => I b ∧ b < w.heap.size) (fun b hb hl => hb2.block b hb.2) _ (AAt.mono (fun b hb hl => ⟨hb, hl⟩) _ ht)))
 rw [vr_wk, List.nil_append] at HC
 rw [hw2] at HC
 have HB2 := hide hb2
 generalize vn t.tr = L at HC ⊢
 generalize t.p = p at HC ⊢
 clear ht hc hV hb2 HB2
 go_enter Tryz.func217, Tryz.ntmps217
 go_wp2_with fail
 refine cm HC.out ?_
 rintro e w3 ⟨rfl, hv3, _, ha3⟩
 obtain ⟨hz3, v, ps, hb3, hown3, hls3⟩ := hv3
 have c3 : w3.cell? ⟨w.heap.size, 0, none⟩ = some v := by rw [Lib.cell_of_heap hb3]; rfl
 have HBL : Hid (Below w.heap.size w w3) := by
  refine ⟨ha3.os, ha3.tape, ha3.output, by have := ha3.size; simp at this; omega, fun k hk => ?_⟩
  rw [ha3.block k (by omega) (by omega), Below.heap_alloc w _ k hk]
 have HO := hide hown3
 have HL := hide hls3
 obtain ⟨oa, oc, rfl⟩ := srow_form hown3
 clear ha3 hb3 hown3 hls3 HC
 go_wp2_with fail
 go_ret
 exact ⟨⟨_, rfl, ps, owns_lower HO.out (by omega), NLs.mono (fun _ hb _ => hb.1) _ _ HL.out⟩, HBL.out⟩
def declT (t : Tr) : List Tr :=
 if t.kd = 1 then letsT t
 else if t.kd = 5 ∨ t.kd = 37 then (match t.kids with | pr :: bl :: _ => [pr.kids, vn bl, fnsT bl, letsT bl].flatten | _ => [])
 else if t.kd = 6 then [fnsT t, letsT t].flatten
 else if t.kd = 13 then [t] else []
theorem AAt.row {I : Nat → Prop} {w : World} {a : Ad} (h : AAt I w a) : ∃ v, w.cell? ⟨a.p, 3, none⟩ = some v ∧ NRowI I 0 w v a.tr.kids := by
 obtain ⟨_, _, _, _, v, c3, hr, _⟩ := h.cells
 refine ⟨v, c3, a.ks.map Ad.p, owns_zero hr, ?_⟩
 have hp := h.parts
 rw [a.tr_eq.2.2]
 have key : ∀ es : List Ad, (∀ k ∈ es, AAt I w k) → NLs I w (es.map Ad.tr) (es.map Ad.p) := by
  intro es
  induction es with
  | nil => intro _; exact NLs.nil
  | cons k es ih => intro hk; exact NLs.cons (hk k (by simp)).nat (ih fun x hx => hk x (by simp [hx]))
 exact key _ hp
section
variable {I : Nat → Prop} {a : Ad} {w : World} (ht : AAt I w a)
include I a w ht
theorem decl1_any (hk : a.kd = 1) (hc : a.cnt ≤ 20000) :
  Calls Tryz.prog 131 #[nPtr a.p] w fun e w' => (∃ v, e = .returned v ∧ NRowI I w.heap.size w' v (letsT a.tr)) ∧ Below w.heap.size w w' := by
 obtain ⟨_, hpl, c0, _, _⟩ := ht.cells
 have hkl : a.tr.kids.length ≤ 90000 := by
  exact zbey
 have HC := hide (letsI_any a.tr a.p w ht.nat hkl)
 rw [hk] at c0
 generalize letsT a.tr = L at HC ⊢
 generalize a.p = p at hpl c0 HC ⊢
 clear ht hk hkl hc
 go_enter Tryz.func131, Tryz.ntmps131
 go_wp2_with fail
 refine cm HC.out ?_
 rintro e w1 ⟨⟨u, rfl, hr⟩, hb⟩
 have HR := hide hr
 have HB := hide hb
 obtain ⟨oa, oc, rfl⟩ := hr.form
 clear hr hb HC
 go_wp2_with fail
 go_ret
 exact ⟨⟨_, rfl, HR.out⟩, HB.out⟩
theorem decl6_any (hk : a.kd = 6) (hc : a.cnt ≤ 20000) :
  Calls Tryz.prog 131 #[nPtr a.p] w fun e w' => (∃ v, e = .returned v ∧ NRowI I w.heap.size w' v [fnsT a.tr, letsT a.tr].flatten) ∧ Below w.heap.size w w' := by
 obtain ⟨_, hpl, c0, _, _⟩ := ht.cells
 have hkl : a.tr.kids.length ≤ 20000 := by
  exact zbey
 have hl1 := fns_len a.tr
 have hl2 := lets_len a.tr
 have HC := hide (funcsI_any a.tr a.p w ht.nat (by omega))
 have HC2 := hide (fun (W : World) (hb : Below w.heap.size w W) => letsI_any a.tr a.p W (NAt.later (Below.stay hb) _ _ ht.nat) (by omega))
 rw [hk] at c0
 generalize letsT a.tr = L at HC2 hl2 ⊢
 generalize fnsT a.tr = M at HC hl1 ⊢
 generalize a.p = p at hpl c0 HC HC2 ⊢
 have hsum : lenS [M, L] ≤ 90000 := by simp [lenS]; omega
 obtain ⟨X, hX⟩ : ∃ X, X = [M, L].flatten := ⟨_, rfl⟩
 rw [← hX]
 have HX := hide hX
 clear ht hk hc hl1 hl2 hkl hX
 go_enter Tryz.func131, Tryz.ntmps131
 go_wp2_with fail
 refine cm HC.out ?_
 rintro e w1 ⟨⟨u, rfl, hr⟩, hb⟩
 have HR := hide (hr.low (Nat.zero_le _))
 have HB := hide hb
 obtain ⟨oa, oc, rfl⟩ := hr.form
 have HC3 := hide (HC2.out w1 hb)
 clear hr hb HC HC2
 go_wp2_with fail
 refine cm HC3.out ?_
 rintro e w2 ⟨⟨u, rfl, hr⟩, hb⟩
 have HR2 := hide (hr.low (Nat.zero_le _))
 have HR1 := hide (HR.out.later hb)
 have HB2 := hide (HB.out.trans (hb.mono HB.out.size))
 obtain ⟨oa2, oc2, rfl⟩ := hr.form
 have hb3 : Below w2.heap.size w2 (w2.alloc (.cells #[.slice oa M.length oc, .slice oa2 L.length oc2] 46)) := (Below.refl _ _).alloc (Nat.le_refl _) _
 have HC4 := hide (concatI_any (I := I) (B := 0) w2.heap.size [.slice oa M.length oc, .slice oa2 L.length oc2] [M, L] (w2.alloc (.cells #[.slice oa M.length oc, .slice oa2 L.length oc2] 46)) rfl (by simp) (by simp)
  (fun j hj => by
   rw [Lib.cell_of_heap (heap_new _ _)]
   match j, hj with
   | 0, _ => rfl
   | 1, _ => rfl)
  (fun j hj hj2 => by
   match j, hj, hj2 with
   | 0, _, _ => exact HR1.out.later hb3
   | 1, _, _ => exact HR2.out.later hb3) hsum 2 rfl)
 have HB3 := hide (HB2.out.trans (hb3.mono HB2.out.size))
 rw [← HX.out] at HC4
 clear hr hb hb3 HC3
 go_wp2_with fail
 refine cm HC4.out ?_
 rintro e w4 ⟨⟨u, rfl, hr⟩, hb⟩
 have HR4 := hide (hr.low HB3.out.size)
 have HB4 := hide (HB3.out.trans (hb.mono HB3.out.size))
 obtain ⟨oa4, oc4, rfl⟩ := hr.form
 clear hr hb HC4
 go_wp2_with fail
 go_ret
 exact ⟨⟨_, rfl, HR4.out⟩, HB4.out⟩
theorem decl13_any (hk : a.kd = 13) :
  Calls Tryz.prog 131 #[nPtr a.p] w fun e w' => (∃ v, e = .returned v ∧ NRowI I w.heap.size w' v [a.tr]) ∧ Below w.heap.size w w' := by
 obtain ⟨_, hpl, c0, _, _⟩ := ht.cells
 have hN := ht.nat
 rw [hk] at c0
 generalize a.p = p at hpl c0 hN ⊢
 have HN := hide hN
 clear ht hk hN
 go_enter Tryz.func131, Tryz.ntmps131
 go_wp2_with fail
 go_ret
 refine ⟨⟨_, rfl, [p], ⟨rfl, Or.inr ⟨w.heap.size, 1, #[nPtr p], rfl, Nat.le_refl _, heap_new _ _, Nat.le_refl _, by decide, rfl, rfl⟩⟩, NLs.cons (NAt.later (Below.stay ?_) _ _ HN.out) NLs.nil⟩, ?_⟩
 all_goals
  exact (Below.refl _ _).alloc (Nat.le_refl _) _
theorem declN_any (h1 : a.kd ≠ 1) (h5 : a.kd ≠ 5) (h37 : a.kd ≠ 37) (h6 : a.kd ≠ 6) (h13 : a.kd ≠ 13) :
  Calls Tryz.prog 131 #[nPtr a.p] w fun e w' => (∃ v, e = .returned v ∧ NRowI I w.heap.size w' v []) ∧ Below w.heap.size w w' := by
 obtain ⟨_, hpl, c0, _, _⟩ := ht.cells
 generalize a.p = p at hpl c0 ⊢
 generalize a.kd = kd at c0 h1 h5 h37 h6 h13
 clear ht
 go_enter Tryz.func131, Tryz.ntmps131
 go_wp2_with fail
 go_ret
 exact ⟨⟨_, rfl, [], ⟨rfl, Or.inl ⟨rfl, rfl⟩⟩, NLs.nil⟩, Below.refl _ _⟩
end
section
variable {I : Nat → Prop}
include I
theorem AAt.two {w : World} {a x y : Ad} {ks : List Ad} (h : AAt I w a) (hk : a.ks = x :: y :: ks) : ∃ g cap, w.cell? ⟨a.p, 3, none⟩ = some (.slice (some ⟨g, 0, none⟩) (ks.length + 1 + 1) cap) ∧ g < w.heap.size ∧ w.cell? ⟨g, 0, none⟩ = some (nPtr x.p) ∧ w.cell? ⟨g, 1, none⟩ = some (nPtr y.p) ∧ AAt I w x ∧ AAt I w y := by
 obtain ⟨_, _, _, _, v, c3, hr, _⟩ := h.cells
 rw [hk] at hr
 obtain ⟨g, cap, rfl, hc⟩ := row_open hr (by simp)
 refine ⟨g, cap, ?_, (own_lt hr g rfl).1, ?_, ?_, h.parts x (by rw [hk]; simp), h.parts y (by rw [hk]; simp)⟩
 ·
  rw [c3]; simp
 ·
  have := hc 0 (by simp); simpa using this
 ·
  have := hc 1 (by simp); simpa using this
theorem declF_any {a x y : Ad} {ks : List Ad} {w : World} (ht : AAt I w a) (hk : a.kd = 5 ∨ a.kd = 37) (hks : a.ks = x :: y :: ks) (hc : a.cnt ≤ 20000) :
  Calls Tryz.prog 131 #[nPtr a.p] w fun e w' => (∃ v, e = .returned v ∧ NRowI I w.heap.size w' v [x.tr.kids, vn y.tr, fnsT y.tr, letsT y.tr].flatten) ∧ Below w.heap.size w w' := by
 obtain ⟨_, hpl, c0, _, _⟩ := ht.cells
 obtain ⟨g, cap, c3, hgl, g0, g1, hx, hy⟩ := ht.two hks
 obtain ⟨_, hxl, _, _, _⟩ := hx.cells
 obtain ⟨xv, xc, hxr⟩ := hx.row
 have hcx : x.cnt + y.cnt ≤ 20000 := by
  have h1 := cnt_eq a; rw [hks, Ad.cnts, Ad.cnts] at h1; omega
 have hkx : x.tr.kids.length ≤ x.cnt := by
  have h1 := counts_len x.tr.kids; have h2 := x.cnt_tr; have h3 : x.tr.count = 1 + Tr.counts x.tr.kids := by cases x.tr with | mk kd tx n ks => exact count_mk _ _ _ _
  omega
 have hky : y.tr.kids.length ≤ y.cnt := by
  have h1 := counts_len y.tr.kids; have h2 := y.cnt_tr; have h3 : y.tr.count = 1 + Tr.counts y.tr.kids := by cases y.tr with | mk kd tx n ks => exact count_mk _ _ _ _
  omega
 have hl1 := fns_len y.tr
 have hl2 := lets_len y.tr
 have hl3 := vn_len y.tr
 rw [y.cnt_tr] at hl3
 have HCV := hide (fun (W : World) (hb : Below w.heap.size w W) => varsA_any y W (AAt.later (fun b _ hl => hb.block b hl) _ hy) (by omega))
 have HCF := hide (fun (W : World) (hb : Below w.heap.size w W) => funcsI_any y.tr y.p W (NAt.later (Below.stay hb) _ _ hy.nat) (by omega))
 have HCL := hide (fun (W : World) (hb : Below w.heap.size w W) => letsI_any y.tr y.p W (NAt.later (Below.stay hb) _ _ hy.nat) (by omega))
 have hsum : lenS [x.tr.kids, vn y.tr, fnsT y.tr, letsT y.tr] ≤ 90000 := by simp [lenS]; omega
 have HXR := hide hxr
 obtain ⟨xa, xn, hxv⟩ := hxr.form
 generalize x.tr.kids = K at HXR hsum hxv ⊢
 generalize letsT y.tr = L at HCL hsum ⊢
 generalize fnsT y.tr = M at HCF hsum ⊢
 generalize vn y.tr = V at HCV hsum ⊢
 generalize a.p = p at hpl c0 c3 ⊢
 generalize x.p = px at g0 hxl xc
 generalize y.p = py at g1 HCV HCF HCL
 generalize ks.length = nk at c3
 subst hxv
 have hn0 : (0 : Int) < ((nk + 1 + 1 : Nat) : Int) := by omega
 have hn1 : (1 : Int) < ((nk + 1 + 1 : Nat) : Int) := by omega
 clear ht hx hy hks hcx hkx hky hl1 hl2 hl3 hxr hc
 obtain ⟨X, hX⟩ : ∃ X, X = [K, V, M, L].flatten := ⟨_, rfl⟩
 rw [← hX]
 have HX := hide hX
 have HXC := hide xc
 clear hX
 rcases hk with hk | hk
 all_goals
  rw [hk] at c0; clear hk; go_enter Tryz.func131, Tryz.ntmps131; go_wp2_with fail
  go_region
  go_wp2_with fail; obtain ⟨w1, hw1⟩ : ∃ w1, w1 = w.drew := ⟨_, rfl⟩; have hB1 : Below w.heap.size w w1 := by rw [hw1]; exact (Below.refl _ _).drew
  rw [← hw1]; clear hw1 g0 g1 c0 c3 xc; have hS0 : Below w.heap.size w w1.drew := hB1.drew; refine wp_region_held (S := fun Y => Below w.heap.size w Y) (by kernel_rfl) ?_; change wpAnyH _ _ _ _ _ _ _ _ (World.drew _)
  refine wh 0 (nPtr px) hS0 ?_; refine wh 1 (nPtr px) hS0 ?_; refine wh 2 (.pointer (some ⟨px, 3, none⟩)) hS0 ?_
  refine wh 3 (.slice xa K.length xn) hS0 ?_ (hy := Or.inl ⟨by kernel_rfl, fun Y hY => by have hh := (hY.cell (p := ⟨px, 3, none⟩) hxl).trans HXC.out; go_simp⟩)
  refine wh 4 (nPtr py) hS0 ?_; refine wh 6 (nPtr py) hS0 ?_; refine wh 8 (nPtr py) hS0 ?_; refine wq1 5 fun K2 hK => ?_; go_simp; refine cm (HCV.out w1.drew hS0) ?_; rintro e w2 ⟨⟨u, rfl, hr⟩, hb⟩
  have hS2 : Below w.heap.size w w2 := hS0.trans (hb.mono hS0.size); have HV2 := hide (hr.low (Nat.zero_le _)); obtain ⟨va, vc, rfl⟩ := hr.form; refine hK.out _ _ hS2 (fun _ => ?_); clear hK K2 hr hb
  refine wq1 7 fun K2 hK => ?_; go_simp; refine cm (HCF.out w2 hS2) ?_; rintro e w3 ⟨⟨u, rfl, hr⟩, hb⟩; have hS3 : Below w.heap.size w w3 := hS2.trans (hb.mono hS2.size); have HM3 := hide (hr.low (Nat.zero_le _))
  have HV3 := hide (HV2.out.later hb); obtain ⟨ma, mc, rfl⟩ := hr.form; refine hK.out _ _ hS3 (fun _ => ?_); clear hK K2 hr hb HV2; refine wq1 9 fun K2 hK => ?_; go_simp; refine cm (HCL.out w3 hS3) ?_
  rintro e w4 ⟨⟨u, rfl, hr⟩, hb⟩; have hS4 : Below w.heap.size w w4 := hS3.trans (hb.mono hS3.size); have HL4 := hide (hr.low (Nat.zero_le _)); have HM4 := hide (HM3.out.later hb); have HV4 := hide (HV3.out.later hb)
  obtain ⟨la, lc, rfl⟩ := hr.form; refine hK.out _ _ hS4 (fun _ => ?_); clear hK K2 hr hb HV3 HM3; refine wq1 10 fun K2 hK => ?_; go_simp
  have hb5 : Below w4.heap.size w4 (w4.alloc (.cells #[.slice xa K.length xn, .slice va V.length vc, .slice ma M.length mc, .slice la L.length lc] 46)) := (Below.refl _ _).alloc (Nat.le_refl _) _
  have hS5 := hS4.trans (hb5.mono hS4.size); refine hK.out _ _ hS5 (fun _ => ?_); clear hK K2
  have HC5 := hide (concatI_any (I := I) (B := 0) w4.heap.size [.slice xa K.length xn, .slice va V.length vc, .slice ma M.length mc, .slice la L.length lc] [K, V, M, L] (w4.alloc (.cells #[.slice xa K.length xn, .slice va V.length vc, .slice ma M.length mc, .slice la L.length lc] 46)) rfl (by simp) (by simp)
   (fun j hj => by
    rw [Lib.cell_of_heap (heap_new _ _)]
    match j, hj with
    | 0, _ => rfl
    | 1, _ => rfl
    | 2, _ => rfl
    | 3, _ => rfl)
   (fun j hj hj2 => by
    match j, hj, hj2 with
    | 0, _, _ => exact HXR.out.later hS5
    | 1, _, _ => exact HV4.out.later hb5
    | 2, _, _ => exact HM4.out.later hb5
    | 3, _, _ => exact HL4.out.later hb5) hsum 4 rfl)
  rw [← HX.out] at HC5; refine wq1 11 fun K2 hK => ?_; go_simp; refine cm HC5.out ?_; rintro e w6 ⟨⟨u, rfl, hr⟩, hb⟩; have hS6 := hS5.trans (hb.mono hS5.size); have HR6 := hide (hr.low hS5.size)
  obtain ⟨ra, rc, rfl⟩ := hr.form; refine hK.out _ _ hS6 (fun _ => ?_); clear hK K2 hr hb; refine wh 12 (.slice ra X.length rc) hS6 ?_; refine wpAnyH_done (by kernel_rfl) ?_ _; go_simp; have HS6 := hide hS6
  clear hS6 hS5 hS4 hS3 hS2 hS0 hb5 HC5; go_wp2_with fail; go_ret; exact ⟨⟨_, rfl, HR6.out⟩, HS6.out⟩
theorem declA_any {a : Ad} {w : World} (ht : AAt I w a) (hf : isFunT a.tr = true → ∃ x y ks, a.ks = x :: y :: ks) (hc : a.cnt ≤ 20000) :
  Calls Tryz.prog 131 #[nPtr a.p] w fun e w' => (∃ v, e = .returned v ∧ NRowI I w.heap.size w' v (declT a.tr)) ∧ Below w.heap.size w w' := by
 obtain ⟨e1, _, e3⟩ := a.tr_eq
 unfold declT
 rw [e1]
 by_cases h1 : a.kd = 1
 ·
  rw [if_pos h1]; exact decl1_any ht h1 hc
 ·
  rw [if_neg h1]
  by_cases h5 : a.kd = 5 ∨ a.kd = 37
  ·
   rw [if_pos h5, e3]; obtain ⟨x, y, ks, hk⟩ := hf (by unfold isFunT; rw [e1]; rcases h5 with h | h <;> rw [h] <;> rfl)
   rw [hk]; exact declF_any ht h5 hk hc
  ·
   rw [if_neg h5]
   by_cases h6 : a.kd = 6
   ·
    rw [if_pos h6]; exact decl6_any ht h6 hc
   ·
    rw [if_neg h6]
    by_cases h13 : a.kd = 13
    ·
     rw [if_pos h13]; exact decl13_any ht h13
    ·
     rw [if_neg h13]; exact declN_any ht h1 (fun h => h5 (Or.inl h)) (fun h => h5 (Or.inr h)) h6 h13
end
theorem namesA_any {B : Nat} (ts : List Tr) (q v : Value) (w : World) (hq : q = .pointer none ∨ ∃ p, q = nPtr p) (h : NRow B w v ts) (hl : ts.length ≤ 90000) :
  Calls Tryz.prog 76 #[.agg #[q, v]] w fun e w' => (∃ u, e = .returned u ∧ SRow w.heap.size w' u (onceL (ts.map Tr.tx))) ∧ Below w.heap.size w w' := by
 obtain ⟨i0, hi0, hz0, hz1, hz2⟩ := info_parts info9
 obtain ⟨va, vc, rfl⟩ := h.form
 have HR := hide h
 clear h
 have hbA : Below w.heap.size w (w.alloc (.cells #[q, .slice va ts.length vc] 119)) := (Below.refl _ _).alloc (Nat.le_refl _) _
 have HBA := hide hbA
 clear hbA
 rcases hq with rfl | ⟨p, rfl⟩
 all_goals
  go_enter Tryz.func76, Tryz.ntmps76; go_wp2_with fail
  go_loopw [3, 9] (fun o i wr => ∃ k : Nat, k ≤ ts.length ∧ i = .int .i64 k ∧ SRow w.heap.size wr o (onceL ((ts.take k).map Tr.tx)) ∧ Below w.heap.size w wr) (fun _ i _ => ts.length - (intOf i).toNat)
  case atStart => exact ⟨0, Nat.zero_le _, rfl, srow_nil _ _, HBA.out⟩
  case round =>
   obtain ⟨k, hk, rfl, hown, hbel⟩ := hrel; have HOWN := hide hown; have HBEL := hide hbel; obtain ⟨oa, oc, rfl⟩ := srow_form hown; clear hown hbel
   by_cases hlt : k < ts.length
   ·
    obtain ⟨g, cap, q, hv, hg, hc, hn⟩ := (HR.out.later HBEL.out).cell k hlt; simp only [Value.slice.injEq] at hv; obtain ⟨rfl, _, rfl⟩ := hv; obtain ⟨hql, _, c1, _⟩ := hn.cells
    have hki : (k : Int) < (ts.length : Int) := by omega
    obtain ⟨x, hx⟩ : ∃ x, x = (ts[k]).tx := ⟨_, rfl⟩; rw [← hx] at c1; have HX := hide hx; have hsz := HBEL.out.size; have hkm : k < (ts.map Tr.tx).length := by simpa using hlt
    have hot := once_take (ts.map Tr.tx) k hkm; rw [← List.map_take, ← List.map_take, List.getElem_map] at hot; have HON := hide hot; have hol := once_len ((ts.take k).map Tr.tx)
    rw [List.length_map, List.length_take] at hol; obtain ⟨L, hL⟩ : ∃ L, L = onceL ((ts.take k).map Tr.tx) := ⟨_, rfl⟩; rw [← hL] at hol; have HL := hide hL
    have HOW2 : Hid (SRow w.heap.size wr (.slice oa L.length oc) L) := by
     have h := unhide HOWN; rw [← hL] at h; exact h
    rw [← hL]; have hLk : L.length ≤ k := by omega
    have HC := hide (contains_any L x _ wr HOW2.out (by omega)); clear hx hn HOWN hL hol hot
    cases hh : hasB L x with
    | true =>
     rw [hh] at HC; have HH := hide hh; clear hh; go_wp2_with fail; refine cm HC.out ?_; rintro e w2 ⟨rfl, rfl⟩; clear HC; go_wp2_with fail
     go_roundw
     case rel =>
      refine ⟨k + 1, by omega, by go_num, ?_, HBEL.out⟩; rw [HON.out, ← HL.out, ← HX.out, addB, if_pos HH.out]; exact unhide HOW2
     case measure => simp [intOf]; omega
    | false =>
     rw [hh] at HC; have HH := hide hh; clear hh; go_wp2_with fail; refine cm HC.out ?_; rintro e w2 ⟨rfl, rfl⟩; clear HC
     go_wp2_with (at_builtin; refine wpList_append_lies _ rfl _ _ 38 rfl w.heap.size 9 i0 (.string ByteArray.empty) 1 16 Tryz.underlying38 hi0 hz0 hz1 hz2 rfl (by decide) _ _ _ rfl (HOW2.out.alloc _) ⟨w2.heap.size, 0, none⟩ 1 1 [.string x] rfl rfl (hoCellsS w2 x _ rfl) (hoOneS x) (by decide) (by unfold maxLen; omega) (by omega) (by simp; omega) (w2.heap.size + 1) (by simp) ?_)
     intro g' cap' w3 hown' hgrow hg' _; have HB3 := hide ((HBEL.out.alloc hsz (.cells #[.string x] 9)).grown hgrow (by simp; omega) (fun b hb => (own_lt HOW2.out b hb).2))
     have HO3 := hide hown'; clear hown' hgrow hg'; go_wp2_with fail
     go_roundw
     case rel =>
      refine ⟨k + 1, by omega, by go_num, ?_, HB3.out⟩; rw [HON.out, ← HL.out, ← HX.out, addB, if_neg (by rw [HH.out]; decide)]
      have h := unhide HO3
      show World.ownsRow _ _ _ _ _ _ _
      rw [List.length_append, List.map_append]; exact h
     case measure => simp [intOf]; omega
   ·
    have hkk : k = ts.length := by omega
    subst hkk; rw [List.take_length] at HOWN ⊢; go_wp2_with fail; go_ret; exact ⟨⟨_, rfl, HOWN.out⟩, HBEL.out⟩
def mkEI (e : (Int × Value) × Nat) : MapEntry := { key := .int .i64 e.1.1, val := e.1.2, born := e.2 }
def mapI (l : List (Int × Value)) : Array MapEntry := ((l.zipIdx).map mkEI).toArray
theorem find_entI (s : Int) : ∀ (l : List (Int × Value)) (n i : Nat),
  ∃ o, Instr.findNow (.int .i64) (.int .i64 s) ((l.zipIdx n).map mkEI) i = some o ∧ o.map (·.2) = (l.find? (fun e => decide (s = e.1))).map (·.2)
 | [], n, i => ⟨none, rfl, rfl⟩
 | e :: l, n, i => by
  have hb : (s == e.1) = decide (s = e.1) := rfl; simp only [List.zipIdx_cons, List.map_cons, Instr.findNow, mkEI, Instr.sameNow, if_true, hb, List.find?_cons]
  cases h : decide (s = e.1)
  ·
   simp only; exact find_entI s l (n + 1) (i + 1)
  ·
   exact ⟨some (i, e.2), rfl, rfl⟩
theorem lookup_mapI (T E : TypeId) (m k : Nat) (l : List (Int × Value)) (s : Int) (z : Value) (W : World) (hT : Tryz.prog.underlying T = some (.map 3 E)) (hm : W.heap[m]? = some (.map (mapI l) k)) (hz : (zeroValue E).run Tryz.prog W = .ok z W) :
  (Instr.lookup T (.map (some m)) (.int .i64 s) true).run Tryz.prog W = .ok (.tuple #[((l.find? (fun e => decide (s = e.1))).map (·.2)).getD z, .bool (l.find? (fun e => decide (s = e.1))).isSome]) W := by
 obtain ⟨o, h1, h2⟩ := find_entI s l 0 0
 have h9 := Tryz.underlying3
 have h3 : (Instr.findKey 3 (.int .i64 s) (mapI l).toList).run Tryz.prog W = .ok o W := by
  unfold Instr.findKey; rw [Sem.run_bind, run_underlying h9 W]; simp only [Result.andThen_ok, mapI]; rw [h1]; rfl
 unfold Instr.lookup
 rw [Sem.run_bind, run_underlying hT W]
 have hck : ∀ b, (Instr.checkKey b 10000 3 (.int .i64 s)).run Tryz.prog W = .ok () W := by
  exact zbds
 have hg : (getObj m).run Tryz.prog W = .ok (.map (mapI l) k) W := by simp [getObj, Sem.run, hm]
 exact zcaz
theorem mapI_snoc (l : List (Int × Value)) (k : Int) (v : Value) : (mapI l).push { key := .int .i64 k, val := v, born := l.length } = mapI (l ++ [(k, v)]) := by
 unfold mapI
 rw [List.zipIdx_append, List.map_append]
 simp [mkEI, List.zipIdx]
theorem updateI_new (T E : TypeId) (m : Nat) (l : List (Int × Value)) (s : Int) (v : Value) (W : World) (hT : Tryz.prog.underlying T = some (.map 3 E)) (hm : W.heap[m]? = some (.map (mapI l) l.length)) (hn : l.find? (fun e => decide (s = e.1)) = none) :
  (Instr.mapUpdate T (.map (some m)) (.int .i64 s) v).run Tryz.prog W = .ok () (setMap W m (.map (mapI (l ++ [(s, v)])) (l.length + 1))) := by
 obtain ⟨o, h1, h2⟩ := find_entI s l 0 0
 have h9 := Tryz.underlying3
 have ho : o = none := by
  rw [hn] at h2
  cases o with
  | none => rfl
  | some y => simp at h2
 subst ho
 have h3 : (Instr.findKey 3 (.int .i64 s) (mapI l).toList).run Tryz.prog W = .ok none W := by
  unfold Instr.findKey; rw [Sem.run_bind, run_underlying h9 W]; simp only [Result.andThen_ok, mapI]; rw [h1]; rfl
 have hck : ∀ b, (Instr.checkKey b 10000 3 (.int .i64 s)).run Tryz.prog W = .ok () W := by
  exact zbds
 have hg : (getObj m).run Tryz.prog W = .ok (.map (mapI l) l.length) W := by simp [getObj, Sem.run, hm]
 unfold Instr.mapUpdate
 rw [Sem.run_bind, run_underlying hT W]
 simp only [Result.andThen_ok, Sem.run_bind, hg, hck, h3]
 rw [mapI_snoc]
 simp [setObj, Sem.run, hm, setMap]
theorem walkG3 {α : Type} (F : Nat) (x y z : Value) (I : Nat → Prop) (Rl : World → World → Prop) (Inv : α → World → Prop) (f : α → Ad → α × Bool) (P : α → List Ad → Prop)
  (hen : ∀ args W, (callFunc F args).run Tryz.prog W = .ok (.enter F args) W) (hfn : ∀ W : World, (binOp .eql 54 (.func (.func F) #[] #[x, y, z]) .nilFunc).run Tryz.prog W = .ok (.bool false) W)
  (htr : ∀ a b c, Rl a b → Rl b c → Rl a c) (hsy : ∀ w w', Rl w w' → Stay I w w' ∧ w.heap.size ≤ w'.heap.size)
  (hP : ∀ a t ts, P a (t :: ts) → P (f a t).1 ((if (f a t).2 then t.ks else []) ++ ts))
  (hst : ∀ a t ts w, P a (t :: ts) → Inv a w → AAt I w t → Calls Tryz.prog F #[nPtr t.p, x, y, z] w fun e w' => e = .returned (.bool (f a t).2) ∧ Inv (f a t).1 w' ∧ Rl w w') :
  ∀ (m : Nat) (t : Ad), t.cnt ≤ m → m ≤ 90000 → ∀ (ts : List Ad) (a : α) (w : World), P a (t :: ts) → Inv a w → AAt I w t →
   Calls Tryz.prog 31 #[nPtr t.p, .func (.func F) #[] #[x, y, z]] w fun e w' => e = .returned (.tuple #[]) ∧ Inv (wk f a t) w' ∧ P (wk f a t) ts ∧ Rl w w' := by
 exact zbaf
abbrev OSt := Nat × Option Nat × List (Nat × Ad)
def optP : Option Nat → Value
 | none => .pointer none
 | some p => nPtr p
def bodyP (b : Option Nat) (a : Ad) : Option Nat := if isFunT a.tr then (match a.ks with | _ :: y :: _ => some y.p | _ => b) else b
def keepA (b : Option Nat) (a : Ad) : Bool := !(b == some a.p) && decide (0 < (declT a.tr).length)
def osF (s : OSt) (a : Ad) : OSt × Bool := ((s.1 + 1, bodyP s.2.1 a, if keepA (bodyP s.2.1 a) a then s.2.2 ++ [(s.1, a)] else s.2.2), true)
structure Sk (fm bb : Nat) (w w' : World) : Prop where
 os : w'.os = w.os
 tape : w'.tape = w.tape
 output : w'.output = w.output
 size : w.heap.size ≤ w'.heap.size
 block : ∀ k, k < w.heap.size → k ≠ fm → k ≠ bb → w'.heap[k]? = w.heap[k]?
theorem Sk.trans {fm bb : Nat} {a b c : World} (h : Sk fm bb a b) (k : Sk fm bb b c) : Sk fm bb a c :=
 ⟨k.os.trans h.os, k.tape.trans h.tape, k.output.trans h.output, Nat.le_trans h.size k.size, fun x hx h1 h2 => (k.block x (Nat.lt_of_lt_of_le hx h.size) h1 h2).trans (h.block x hx h1 h2)⟩
theorem Sk.of {fm bb : Nat} {w w' : World} (h : Below w.heap.size w w') : Sk fm bb w w' := ⟨h.os, h.tape, h.output, h.size, fun k hk _ _ => h.block k hk⟩
section
variable (fm bb : Nat) (w : World)
include fm bb w
theorem Sk.refl : Sk fm bb w w := Sk.of (Below.refl _ _)
theorem Sk.body (v : Value) : Sk fm bb w (w.setCell ⟨bb, 0, none⟩ v) := ⟨rfl, rfl, rfl, by simp [World.setCell], fun k _ _ h => Below.heap_setCell w ⟨bb, 0, none⟩ v k h⟩
theorem Sk.map (o : Obj) : Sk fm bb w (setMap w fm o) := ⟨rfl, rfl, rfl, by rw [setMap_size]; exact Nat.le_refl _, fun k _ h _ => setMap_other h⟩
end
structure Fix (I : Nat → Prop) (B nb mb fm fb bb : Nat) (A : List Nat) : Prop where
 lts : nb < B ∧ mb < B ∧ fm < B ∧ fb < B ∧ bb < B
 nes : nb ≠ fm ∧ nb ≠ bb ∧ mb ≠ fm ∧ mb ≠ bb ∧ fb ≠ fm ∧ fb ≠ bb ∧ fm ≠ bb
 own : ∀ b, I b → b < B ∧ b ≠ fm ∧ b ≠ bb
 all : ∀ p ∈ A, I p
 nd : A.Nodup
theorem NRowI.sk {I : Nat → Prop} {B nb mb fm fb bb : Nat} {A : List Nat} {w w' : World} {v : Value} {ts : List Tr} (h : NRowI I B w v ts) (hF : Fix I B nb mb fm fb bb A) (hs : Sk fm bb w w') : NRowI I B w' v ts := by
 obtain ⟨ps, h1, h2⟩ := h
 have hl := hF.lts
 exact ⟨ps, owns_stay (I := fun g => B ≤ g) (fun k hk hlt => hs.block k hlt (by omega) (by omega)) (fun g hg => (own_lt h1 g hg).2) h1, NLs.later (fun k hk hlt => hs.block k hlt (hF.own k hk).2.1 (hF.own k hk).2.2) _ _ h2⟩
def Ents (I : Nat → Prop) (B : Nat) (w : World) (L : List (Nat × Ad)) (es : List (Int × Value)) : Prop :=
 es.length = L.length ∧ ∀ j (h1 : j < L.length) (h2 : j < es.length), (es[j]).1 = ((L[j]).1 : Int) ∧ ∃ v, (es[j]).2 = .agg #[nPtr (L[j]).2.p, v] ∧ NRowI I B w v (declT (L[j]).2.tr)
theorem Ents.sk {I : Nat → Prop} {B nb mb fm fb bb : Nat} {A : List Nat} {w w' : World} {L : List (Nat × Ad)} {es : List (Int × Value)} (h : Ents I B w L es) (hF : Fix I B nb mb fm fb bb A) (hs : Sk fm bb w w') : Ents I B w' L es := by
 refine ⟨h.1, fun j h1 h2 => ?_⟩
 obtain ⟨k1, v, k2, k3⟩ := h.2 j h1 h2
 exact ⟨k1, v, k2, k3.sk hF hs⟩
section
variable {I : Nat → Prop} {B : Nat} {w : World} {L : List (Nat × Ad)} {es : List (Int × Value)} (h : Ents I B w L es) (i : Nat)
include I B w L es h i
theorem Ents.snoc (a : Ad) (v : Value) (hv : NRowI I B w v (declT a.tr)) : Ents I B w (L ++ [(i, a)]) (es ++ [((i : Int), .agg #[nPtr a.p, v])]) := by
 refine ⟨by simp [h.1], fun j h1 h2 => ?_⟩
 rw [List.length_append, List.length_singleton] at h1 h2
 by_cases hj : j < L.length
 ·
  have hj2 : j < es.length := by rw [h.1]; exact hj
  rw [List.getElem_append_left hj, List.getElem_append_left hj2]; exact h.2 j hj hj2
 ·
  have e : j = L.length := by omega
  subst e; have e2 : es.length = L.length := h.1; rw [List.getElem_append_right (Nat.le_refl _), List.getElem_append_right (by omega)]; simp only [e2, Nat.sub_self, List.getElem_cons_zero]; refine ⟨?_, v, ?_, hv⟩
  all_goals
   first | rfl | trivial
theorem Ents.new (hi : ∀ e ∈ L, e.1 < i) : es.find? (fun e => decide ((i : Int) = e.1)) = none := by
 rw [List.find?_eq_none]
 intro x hx
 obtain ⟨j, hj, rfl⟩ := List.mem_iff_getElem.1 hx
 have hj2 : j < L.length := by rw [← h.1]; exact hj
 have h1 := (h.2 j hj2 hj).1
 have h2 := hi _ (List.getElem_mem hj2)
 simp only [decide_eq_true_eq]
 rw [h1]
 omega
end
structure OW (I : Nat → Prop) (B nb mb fm fb bb : Nat) (A : List Nat) (s : OSt) (w : World) : Prop where
 word : w.heap[nb]? = some (.cells #[.map (some mb)] 44 (0, 0))
 nums : w.heap[mb]? = some (.map (mapP (nodL A)) A.length)
 cls : ∀ p ∈ A, Cl w p
 fbox : w.heap[fb]? = some (.cells #[.map (some fm)] 121 (0, 0))
 fmap : ∃ es, w.heap[fm]? = some (.map (mapI es) es.length) ∧ Ents I B w s.2.2 es
 bbox : w.heap[bb]? = some (.cells #[optP s.2.1] 22 (0, 0))
 sz : B ≤ w.heap.size
 lt : ∀ e ∈ s.2.2, e.1 < s.1
theorem OW.next {I : Nat → Prop} {B nb mb fm fb bb : Nat} {A : List Nat} {i i' : Nat} {b b' : Option Nat} {L L' : List (Nat × Ad)} {w w' : World} (h : OW I B nb mb fm fb bb A (i, b, L) w) (hF : Fix I B nb mb fm fb bb A) (hs : Sk fm bb w w')
  (hfm : ∃ es, w'.heap[fm]? = some (.map (mapI es) es.length) ∧ Ents I B w' L' es) (hbb : w'.heap[bb]? = some (.cells #[optP b'] 22 (0, 0))) (hlt : ∀ e ∈ L', e.1 < i') : OW I B nb mb fm fb bb A (i', b', L') w' := by
 obtain ⟨n1, n2, n3, n4, n5, n6, n7⟩ := hF.nes
 refine ⟨?_, ?_, fun p hp => ?_, ?_, hfm, hbb, Nat.le_trans h.sz hs.size, hlt⟩
 ·
  rw [hs.block nb (lt_of_heap h.word) n1 n2]; exact h.word
 ·
  rw [hs.block mb (lt_of_heap h.nums) n3 n4]; exact h.nums
 ·
  obtain ⟨cs, ty, hc⟩ := h.cls p hp; have hp2 := hF.own p (hF.all p hp); exact ⟨cs, ty, by rw [hs.block p (lt_of_heap hc) hp2.2.1 hp2.2.2]; exact hc⟩
 ·
  rw [hs.block fb (lt_of_heap h.fbox) n5 n6]; exact h.fbox
theorem two_kids {t : Ad} (h : t.tr.ill = 0) (hk : isFunT t.tr = true) : ∃ x y ks, t.ks = x :: y :: ks := by
 have h1 := (ill_of t.tr h).1
 obtain ⟨e1, _, e3⟩ := t.tr_eq
 have h2 : need t.tr.kd = 2 := by
  unfold isFunT at hk; rw [Bool.or_eq_true, beq_iff_eq, beq_iff_eq] at hk
  rcases hk with h | h <;> rw [h] <;> rfl
 rw [h2, e3, List.length_map] at h1
 match hk3 : t.ks with
 | x :: y :: ks => exact ⟨x, y, ks, rfl⟩
 | [x] => rw [hk3] at h1; simp at h1
 | [] => rw [hk3] at h1; simp at h1
theorem neq_opt {W : World} {p : Nat} {b : Option Nat} (hp : Cl W p) (hb : ∀ q, b = some q → Cl W q) : (binOp .neq 22 (nPtr p) (optP b)).run Tryz.prog W = .ok (.bool (!(b == some p))) W := by
 cases b with
 | none => kernel_rfl
 | some q =>
  have h1 := eq_ptr hp (hb q rfl); have h2 : (!(some q == some p)) = !decide (p = q) := by
   by_cases h : p = q
   ·
    subst h; simp
   ·
    have h' : q ≠ p := fun e => h e.symm; simp [h, h']
  show (binOp .neq 22 (nPtr p) (nPtr q)).run Tryz.prog W = _
  rw [h2]; simp only [binOp]; simp [h1]
theorem scopes1_any {I : Nat → Prop} {B nb mb fm fb bb : Nat} {A pre post : List Nat} {i : Nat} {b : Option Nat} {L : List (Nat × Ad)} {a : Ad} {w : World} (hF : Fix I B nb mb fm fb bb A) (hO : OW I B nb mb fm fb bb A (i, b, L) w) (ht : AAt I w a) (hA : A = pre ++ (a.p :: post)) (hi : pre.length = i) (hil : a.tr.ill = 0) (hc : a.cnt ≤ 20000) (hbA : ∀ q, bodyP b a = some q → q ∈ A) :
  Calls Tryz.prog 129 #[nPtr a.p, .pointer (some ⟨bb, 0, none⟩), .pointer (some ⟨fb, 0, none⟩), .pointer (some ⟨nb, 0, none⟩)] w fun e w' => e = .returned (.bool true) ∧ OW I B nb mb fm fb bb A (osF (i, b, L) a).1 w' ∧ Sk fm bb w w' := by
 have hpA : a.p ∈ A := by rw [hA]; simp
 have hidx : A.idxOf a.p = i := by
  have hnd := hF.nd; rw [hA] at hnd ⊢; rw [List.nodup_append] at hnd; have hn : a.p ∉ pre := fun hm => hnd.2.2 _ hm _ (by simp) rfl; rw [List.idxOf_append, if_neg hn, List.idxOf_cons_self, Nat.zero_add, hi]
 obtain ⟨n1, n2, n3, n4, n5, n6, n7⟩ := hF.nes
 -- the world behind the first part: the body is told
 obtain ⟨w1, hw1⟩ : ∃ w1, w1 = (if isFunT a.tr then w.setCell ⟨bb, 0, none⟩ (optP (bodyP b a)) else w) := ⟨_, rfl⟩
 have hsk : Sk fm bb w w1 := by rw [hw1]; split; (· exact Sk.body _ _ _ _); (· exact Sk.refl _ _ _)
 have hb1 : w1.heap[bb]? = some (.cells #[optP (bodyP b a)] 22 (0, 0)) := by
  rw [hw1]
  split
  ·
   simp [World.setCell, Array.getElem?_modify, hO.bbox]
  ·
   rename_i h
   have : bodyP b a = b := by unfold bodyP; rw [if_neg h]
   rw [this]; exact hO.bbox
 have hO1 : OW I B nb mb fm fb bb A (i, bodyP b a, L) w1 := by
  obtain ⟨es, e1, e2⟩ := hO.fmap; refine hO.next hF hsk ⟨es, ?_, e2.sk hF hsk⟩ hb1 hO.lt; rw [hw1]
  split
  ·
   rw [Below.heap_setCell w ⟨bb, 0, none⟩ _ fm n7]; exact e1
  ·
   exact e1
 have ht1 : AAt I w1 a := AAt.later (fun k hk hl => hsk.block k hl (hF.own k hk).2.1 (hF.own k hk).2.2) _ ht
 have HD := hide (declA_any ht1 (two_kids hil) hc)
 -- behind 'declaring'
 have key : ∀ (w2 : World) (v : Value), NRowI I w1.heap.size w2 v (declT a.tr) → Below w1.heap.size w1 w2 → OW I B nb mb fm fb bb A (i, bodyP b a, L) w2 ∧ NRowI I B w2 v (declT a.tr) ∧ Sk fm bb w w2 := by
  intro w2 v hr hb2; have hs2 : Sk fm bb w1 w2 := Sk.of hb2; obtain ⟨es, e1, e2⟩ := hO1.fmap
  exact ⟨hO1.next hF hs2 ⟨es, by rw [hb2.block fm (lt_of_heap e1)]; exact e1, e2.sk hF hs2⟩ (by rw [hb2.block bb (lt_of_heap hb1)]; exact hb1) hO1.lt, hr.low hO1.sz, hsk.trans hs2⟩
 have HKEY := hide key
 have HF := hide hF
 have HO := hide hO
 have HT := hide ht
 have HBA := hide hbA
 have HPA := hide hpA
 have HIX := hide hidx
 have HFN := hide (isFunA_any ht)
 have hbbc : w.cell? ⟨bb, 0, none⟩ = some (optP b) := by rw [Lib.cell_of_heap hO.bbox]; rfl
 have hbbf : w.frozen? ⟨bb, 0, none⟩ = false := Lib.frozen_of_heap hO.bbox 0
 have hbbl := lt_of_heap hO.bbox
 have HLT := hide hO.lt
 obtain ⟨S', hS'⟩ : ∃ S', S' = (osF (i, b, L) a).1 := ⟨_, rfl⟩
 rw [← hS']
 have HSS := hide hS'
 clear hS'
 clear hA hi hidx hO1 hsk hb1 key hO
 cases hfn : isFunT a.tr with
 | false =>
  rw [hfn] at hw1 HFN; simp only [Bool.false_eq_true, if_false] at hw1; subst hw1; clear hfn; exact zbag
 | true =>
  obtain ⟨x, y, ks, hks⟩ := two_kids hil hfn; obtain ⟨g, cap, c3, hgl, g0, g1, _, _⟩ := ht.two hks; obtain ⟨_, hpl, _, _, _⟩ := ht.cells; have hbp : bodyP b a = some y.p := by unfold bodyP; rw [hfn, hks]; rfl
  rw [hfn] at hw1 HFN; rw [hbp] at hw1; simp only [if_true, optP] at hw1; have hn1 : (1 : Int) < ((ks.length + 1 + 1 : Nat) : Int) := by omega
  generalize ks.length = nk at c3 hn1
  rw [hw1] at HD HKEY; clear hfn ht ht1 hks; obtain ⟨py, hpy⟩ : ∃ py, py = y.p := ⟨_, rfl⟩; rw [← hpy] at g1 HD HKEY; clear hpy hbp hw1; exact zbag
end Go.Proofs.YtoimgcjbcbhclaaGreatDoor
