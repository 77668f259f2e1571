/-
  The document's Early: its walk, functions.
-/
import Derived.Test.YtodmgaikhbmlnaaGreatDoorEc31
import Derived.Test.YtodmgaikhbmlnaaGreatDoorEc33
import Derived.Test.YtodmgaikhbmlnaaGreatDoorEc34
set_option maxRecDepth 100000
set_option maxHeartbeats 16000000
namespace Go.Proofs.YtodmgaikhbmlnaaGreatDoor
open Go.RowKit
section
variable {Nm : ByteArray → Prop} {bS bW bA d : Nat} (ih : EwAt Nm bS bW bA d) (t : Tr) (c : Nat) (hsh : Shp Nm c t) (ht : t.count ≤ d + 1) (hc : t.count ≤ 1500) (p : Nat) (s i : Bool) (w : World) (hnt : NTr w t p) (hS : EaSt bS bW bA w)
include ih hsh ht hc hnt hS
open zrqg zrqd zrqb in
theorem ew_func_ff (hkd : t.kd = 5 ∨ t.kd = 37) (hs : s = false) (hb : ¬ (kidT t 1).tx = tStrict) : Calls Tryz.prog 90 #[nPtr p, .bool s, .bool i, .pointer (some ⟨bS, 0, none⟩), .pointer (some ⟨bA, 0, none⟩)] w fun e w' => e = .returned (eI (rck (d + 1) t s i)) ∧ Below w.heap.size w w' := by
 exact zrcl
end
theorem ew_all {Nm : ByteArray → Prop} {bS bW bA : Nat} : ∀ d, EwAt Nm bS bW bA d := by
 intro d
 induction d with
 | zero =>
  intro t c _ ht
  cases t with
  | mk kd tx nn ks => rw [count_mk] at ht; omega
 | succ d ih =>
  intro t c hsh ht hc p s i w hnt hS
  by_cases hf : t.kd = 5 ∨ t.kd = 37
  ·
   cases s with
   | true => exact ew_func_t ih t c hsh ht hc p true i w hnt hS hf rfl
   | false =>
    by_cases hb : (kidT t 1).tx = tStrict
    ·
     exact ew_func_ft ih t c hsh ht hc p false i w hnt hS hf rfl hb
    ·
     exact ew_func_ff ih t c hsh ht hc p false i w hnt hS hf rfl hb
  by_cases h6 : t.kd = 6
  ·
   exact ew_block ih t c hsh ht hc p s i w hnt hS h6
  by_cases h2 : t.kd = 2 ∨ t.kd = 3 ∨ t.kd = 4
  ·
   exact ew_name ih t c hsh ht hc p s i w hnt hS h2
  by_cases h13 : t.kd = 13
  ·
   exact ew_catch ih t c hsh ht hc p s i w hnt hS h13
  by_cases h7 : t.kd = 7 ∨ t.kd = 8 ∨ t.kd = 9
  ·
   exact ew_branch ih t c hsh ht hc p s i w hnt hS h7
  by_cases h10 : t.kd = 10
  ·
   exact ew_return ih t c hsh ht hc p s i w hnt hS h10
  by_cases h24 : t.kd = 24
  ·
   exact ew_assign ih t c hsh ht hc p s i w hnt hS h24
  by_cases h34 : t.kd = 34
  ·
   exact ew_delete ih t c hsh ht hc p s i w hnt hS h34
  exact ew_other ih t c hsh ht hc p s i w hnt hS ⟨h6, by omega, by omega, by omega, by omega, by omega, h13, by omega, by omega, by omega, h10, h24, h34⟩
def rearT (t : Tr) (s i : Bool) : Option Int := match oE (rtw t true) 9 with
 | some e => some e
 | none => allR (fun k => rck t.count k (s || decide (t.tx = tStrict)) i) t.kids
theorem rEarly_any {Nm : ByteArray → Prop} (t : Tr) (hsh : Shp Nm 9 t) (p : Nat) (s i : Bool) (w : World) (h : NTr w t p) (hc : t.count ≤ 1500) :
  Calls Tryz.prog 43 #[nPtr p, .bool s, .bool i] w fun e w' => e = .returned (eI (rearT t s i)) ∧ Below w.heap.size w w' := by
 obtain ⟨bA, hbA⟩ : ∃ b, b = w.heap.size + 1 + 1 := ⟨_, rfl⟩
 obtain ⟨wA, hwA⟩ : ∃ wA, wA = ((w.alloc (.cells #[spV] 113)).alloc (.cells #[waV w.heap.size (w.heap.size + 1 + 1)] 59)).alloc (.cells #[alV (w.heap.size + 1)] 114) := ⟨_, rfl⟩
 have hbe : Below w.heap.size w wA := by rw [hwA]; exact (((Below.refl _ _).alloc (Nat.le_refl _) _).alloc (by simp) _).alloc (by simp; omega) _
 have hst : EaSt w.heap.size (w.heap.size + 1) (w.heap.size + 1 + 1) wA := by
  have h0 := heap_new w (.cells #[spV] 113); have h1 := heap_new (w.alloc (.cells #[spV] 113)) (.cells #[waV w.heap.size (w.heap.size + 1 + 1)] 59)
  have h2 := heap_new ((w.alloc (.cells #[spV] 113)).alloc (.cells #[waV w.heap.size (w.heap.size + 1 + 1)] 59)) (.cells #[alV (w.heap.size + 1)] 114)
  have s1 : (w.alloc (.cells #[spV] 113)).heap.size = w.heap.size + 1 := by simp
  have s2 : ((w.alloc (.cells #[spV] 113)).alloc (.cells #[waV w.heap.size (w.heap.size + 1 + 1)] 59)).heap.size = w.heap.size + 1 + 1 := by simp
  rw [s1] at h1; rw [s2] at h2; refine ⟨?_, ?_, ?_⟩
  ·
   have : wA.heap[w.heap.size]? = some (.cells #[spV] 113) := by rw [hwA, Below.heap_alloc _ _ _ (by rw [s2]; omega), Below.heap_alloc _ _ _ (by rw [s1]; omega)]; exact h0
   rw [cell_of this]; rfl
  ·
   have : wA.heap[w.heap.size + 1]? = some (.cells #[waV w.heap.size (w.heap.size + 1 + 1)] 59) := by rw [hwA, Below.heap_alloc _ _ _ (by rw [s2]; omega)]; exact h1
   rw [cell_of this]; rfl
  ·
   rw [hwA, cell_of h2]; rfl
 obtain ⟨hpl, _, c1, u, c3, hrow⟩ := h.cells
 obtain ⟨ua, uc, rfl⟩ := hrow.form
 have HGO := hide (fun z => goon (ew_all (Nm := Nm) (bS := w.heap.size) (bW := w.heap.size + 1) (bA := w.heap.size + 1 + 1) t.count) t hsh (by omega) hc (hrow.later hbe) hst z i)
 have HSB := hide (fun W (hb : Below w.heap.size w W) => sbody_any t p W (h.later hb))
 have HC := hide (rtwice_any t p true wA (h.later hbe) hc)
 have HBE := hide hbe
 have HCA := hide hst.hA
 have HC3 := hide c3
 have hen1 := eaEn89
 obtain ⟨R, hR⟩ : ∃ R, R = rearT t s i := ⟨_, rfl⟩
 rw [← hR]
 unfold rearT at hR
 have hkl : t.kids.length ≤ 1500 := by
  have htc : t.count = 1 + Tr.counts t.kids := by cases t with | mk kd tx nn ks => exact count_mk _ _ _ _
  have := counts_len t.kids; omega
 clear h hrow hst hbe c1 c3 hsh hbA
 cases htw : rtw t true with
 | true =>
  rw [htw] at HC hR; replace hR : R = some 9 := hR; subst hR; clear htw; go_enter Tryz.func43, Tryz.ntmps43; go_wp2_with fail; rw [← hwA]; refine cm HC.out ?_; rintro e w1 ⟨rfl, hb1⟩
  have HB1 := hide (HBE.out.trans (hb1.mono HBE.out.size)); clear HC hb1; go_wp2_with fail; go_ret; exact ⟨rfl, HB1.out⟩
 | false =>
  rw [htw] at HC hR; replace hR : R = allR (fun k => rck t.count k (s || decide (t.tx = tStrict)) i) t.kids := hR; have HRR := hide hR; clear htw hR; go_enter Tryz.func43, Tryz.ntmps43; go_wp2_with fail; rw [← hwA]
  refine cm HC.out ?_; rintro e w1 ⟨rfl, hb1⟩; have HB1 := hide (HBE.out.trans (hb1.mono HBE.out.size)); have HBZ := hide hb1; clear HC hb1; go_wp2_with fail
  have hS0 : Below w1.heap.size w1 w1.drew := (Below.refl _ _).drew; have eA := keepC HBZ.out HCA.out; have e3 := keepC HB1.out HC3.out; refine wp_region_held (S := fun X => Below w1.heap.size w1 X) (by kernel_rfl) ?_
  change wpAnyH _ _ _ _ _ _ _ _ (World.drew _); refine wh 0 (alV (w.heap.size + 1)) hS0 ?_ (hy := Or.inl ⟨by kernel_rfl, fun X hX => by have hh := keepC hX eA; go_simp⟩)
  refine wh 1 (nPtr p) hS0 ?_; refine wh 2 (nPtr p) hS0 ?_; refine wh 3 (.pointer (some ⟨p, 3, none⟩)) hS0 ?_
  refine wh 4 (.slice ua t.kids.length uc) hS0 ?_ (hy := Or.inl ⟨by kernel_rfl, fun X hX => by have hh := keepC hX e3; go_simp⟩)
  refine wh 5 (.bool s) hS0 ?_; refine wh 6 (.bool s) hS0 ?_; refine wh 10 (.bool i) hS0 ?_
  cases s with
  | true =>
   rw [Bool.true_or] at HRR; replace HGO := hide (unhide HGO true); rw [← HRR.out] at HGO; refine wg 7 undef rfl (Or.inr ⟨by kernel_rfl, rfl⟩) hS0 ?_; refine wq1 8 fun K hK => ?_; go_simp
   refine hK.out _ _ hS0 (fun _ => ?_); clear hK K; refine wh 9 (.bool true) hS0 ?_; exact zcbg
  | false =>
   rw [Bool.false_or] at HRR; replace HGO := hide (unhide HGO (decide (t.tx = tStrict))); rw [← HRR.out] at HGO
   generalize decide (t.tx = tStrict) = z at HGO HSB
   refine wh 7 (nPtr p) hS0 ?_; refine wq1 8 fun K hK => ?_; go_simp; refine cm (HSB.out _ (HB1.out.trans (hS0.mono HB1.out.size))) ?_; rintro e w5 ⟨rfl, rfl⟩; refine hK.out _ _ hS0 (fun _ => ?_); clear hK K
   refine wh 9 (.bool z) hS0 ?_; exact zcbg
end Go.Proofs.YtodmgaikhbmlnaaGreatDoor
namespace Go.Proofs.YtodmgaikhbmlnaaGreatDoor
theorem named_iff {l : List Tr} {x : ByteArray} : namedB l x = true ↔ x ∈ l.map Tr.tx := by
 unfold namedB
 rw [List.any_eq_true, List.mem_map]
 simp only [decide_eq_true_eq]
theorem named_no {l : List Tr} {x : ByteArray} : namedB l x = false ↔ x ∉ l.map Tr.tx := by
 rw [← named_iff, Bool.not_eq_true]
theorem occ_app (a b : List ByteArray) (x : ByteArray) : occ (a ++ b) x = occ a x + occ b x := by
 unfold occ
 rw [List.filter_append, List.length_append]
 omega
theorem rep_iff (l : List Tr) : repB l = true ↔ ∃ s, 2 ≤ occ (l.map Tr.tx) s := by
 unfold repB
 rw [List.any_eq_true]
 constructor
 ·
  rintro ⟨i, hi, h⟩; have hi := List.mem_range.1 hi; unfold repF at h; rw [txAt_eq l i hi] at h; have h1 := (occ_pos _ _).2 (named_iff.1 h); refine ⟨(l[i]).tx, ?_⟩
  have h2 : l.map Tr.tx = (l.take i).map Tr.tx ++ (l.drop i).map Tr.tx := by rw [← List.map_append, List.take_append_drop]
  have h3 : 0 < occ ((l.drop i).map Tr.tx) (l[i]).tx := (occ_pos _ _).2 (List.mem_map_of_mem (by rw [List.drop_eq_getElem_cons hi]; exact List.mem_cons_self ..))
  rw [h2, occ_app]; omega
 ·
  rintro ⟨s, hs⟩; have key : ∀ n, n ≤ l.length → (∀ i, i < n → repF l i = false) → occ ((l.take n).map Tr.tx) s ≤ 1 := by
   intro n
   induction n with
   | zero => intro _ _; simp [occ]
   | succ n ih =>
    intro hn hno; have h1 := ih (by omega) (fun i hi => hno i (by omega)); rw [occ_take l n (by omega)]
    split
    ·
     rename_i he
     have h2 := hno n (by omega); unfold repF at h2; rw [txAt_eq l n (by omega), ← he] at h2; have h3 := mt (occ_pos _ _).1 (named_no.1 h2); omega
    ·
     omega
  rcases Classical.em (∃ i, i < l.length ∧ repF l i = true) with ⟨i, hi, h⟩ | hno
  ·
   exact ⟨i, List.mem_range.2 hi, h⟩
  ·
   have h1 := key l.length (Nat.le_refl _) (fun i hi => by
    cases h : repF l i with
    | false => rfl
    | true => exact absurd ⟨i, hi, h⟩ hno)
   rw [List.take_length] at h1; omega
theorem nodup_occ : ∀ (l : List ByteArray), l.Nodup → ∀ x, occ l x ≤ 1
 | [], _, x => by simp [occ]
 | a :: l, h, x => by
  rw [List.nodup_cons] at h; have h1 := nodup_occ l h.2 x; have h2 : occ (a :: l) x = occ [a] x + occ l x := occ_app [a] l x; rw [h2]
  by_cases e : x = a
  ·
   subst e; have h3 := mt (occ_pos l x).1 h.1; have h4 : occ [x] x ≤ 1 := (occ_le [x] x).2; omega
  ·
   have h4 : occ [a] x = 0 := by simp [occ, e]
   omega
theorem addB_nd {l : List ByteArray} (h : l.Nodup) (s : ByteArray) : (addB l s).Nodup := by
 unfold addB
 split
 ·
  exact h
 ·
  rename_i hs
  rw [List.nodup_append]; exact ⟨h, by simp, fun a ha b hb e => hs (hasB_iff.2 (by rw [List.mem_singleton.1 hb] at e; exact e ▸ ha))⟩
theorem fold_nd : ∀ (l acc : List ByteArray), acc.Nodup → (l.foldl addB acc).Nodup
 | [], _, h => h
 | a :: l, _, h => fold_nd l _ (addB_nd h a)
theorem rtw_eq (t : Tr) (body : Bool) : rtw t body = (scT t || (!body && scU t)) := by
 have hv : ∀ x, occ (varsT t) x ≤ 1 := nodup_occ _ (fold_nd _ _ List.nodup_nil)
 have hv0 : ∀ x, 0 < occ (varsT t) x ↔ hasB (varsT t) x = true := fun x => by rw [occ_pos, hasB_iff]
 have hl : ∀ x, 0 < occ ((letsT t).map Tr.tx) x ↔ x ∈ (letsT t).map Tr.tx := occ_pos _
 have hge : ∀ x, 0 ≤ occ ((letsT t).map Tr.tx) x ∧ 0 ≤ occ (varsT t) x := fun x => ⟨(occ_le _ _).1, (occ_le _ _).1⟩
 rw [Bool.eq_iff_iff]
 constructor
 ·
  intro h
  rcases Classical.em (∃ k, k < (fnsT t).length ∧ hitT t body k = true) with ⟨k, hk, h1⟩ | hno
  ·
   unfold hitT at h1; rw [txAt_eq _ k hk] at h1; have hm : ((fnsT t)[k]).tx ∈ (fnsT t).map Tr.tx := List.mem_map_of_mem (List.getElem_mem _)
   split at h1
   ·
    rename_i hn
    have hb : body = false := by simpa using h1
    subst hb; have h2 : repB (fnsT t) = true := List.any_eq_true.2 ⟨k, List.mem_range.2 hk, by unfold repF; rw [txAt_eq _ k hk]; exact hn⟩
    unfold scU; rw [h2]; simp
   ·
    generalize ((fnsT t)[k]).tx = x at h1 hm
    rw [Bool.or_eq_true] at h1; have big : 0 < occ ((letsT t).map Tr.tx) x → scT t = true := fun h0 => by
     obtain ⟨y, hy, hyx⟩ := List.mem_map.1 ((hl x).1 h0); have : (letsT t).any (fun k => namedB (fnsT t) k.tx) = true := List.any_eq_true.2 ⟨y, hy, named_iff.2 (by rw [hyx]; exact hm)⟩
     unfold scT; rw [this]; simp
    unfold manyT at h1; have h5 := hv x; have h6 := hge x
    rcases h1 with h1 | h1
    ·
     have h2 : 2 ≤ 2 * occ ((letsT t).map Tr.tx) x + occ (varsT t) x := of_decide_eq_true h1; rw [big (by omega)]; rfl
    ·
     rw [Bool.and_eq_true] at h1; have hb : body = false := by simpa using h1.1
     subst hb; have h2 : 0 < 2 * occ ((letsT t).map Tr.tx) x + occ (varsT t) x := of_decide_eq_true h1.2
     by_cases h0 : 0 < occ ((letsT t).map Tr.tx) x
     ·
      rw [big h0]; rfl
     ·
      have h3 := (hv0 x).1 (by omega); obtain ⟨y, hy, hyx⟩ := List.mem_map.1 hm; have : (fnsT t).any (fun k => hasB (varsT t) k.tx) = true := List.any_eq_true.2 ⟨y, hy, by rw [hyx]; exact h3⟩
      unfold scU; rw [this]; simp
  ·
   have hs : ∃ s, 2 < manyT t s := by
    apply Classical.byContradiction; intro hn; have := rtw_no (t := t) (body := body) (fun k hk => by
     cases h : hitT t body k with
     | false => rfl
     | true => exact absurd ⟨k, hk, h⟩ hno) (fun s hs => hn ⟨s, hs⟩)
    rw [this] at h; cases h
   obtain ⟨s, hs⟩ := hs; unfold manyT at hs; have h5 := hv s; have h6 := hge s
   by_cases h2 : 2 ≤ occ ((letsT t).map Tr.tx) s
   ·
    unfold scT; rw [(rep_iff _).2 ⟨s, h2⟩]; rfl
   ·
    obtain ⟨y, hy, hyx⟩ := List.mem_map.1 ((hl s).1 (by omega)); have : (letsT t).any (fun k => hasB (varsT t) k.tx) = true := List.any_eq_true.2 ⟨y, hy, by rw [hyx]; exact (hv0 s).1 (by omega)⟩
    unfold scT; rw [this]; simp
 ·
  intro h; rw [Bool.or_eq_true] at h; have first : ∀ x, x ∈ (fnsT t).map Tr.tx → ∃ k, k < (fnsT t).length ∧ txAt (fnsT t) k = x ∧ namedB ((fnsT t).take k) x = false := by
   intro x hx; have h1 := (occ_pos _ _).2 hx; apply Classical.byContradiction; intro hn; have key : ∀ n, n ≤ (fnsT t).length → x ∉ ((fnsT t).take n).map Tr.tx := by
    intro n
    induction n with
    | zero => intro _ h; cases h
    | succ n ih =>
     intro hl h; have h2 := ih (by omega); rw [List.take_succ_eq_append_getElem (by omega), List.map_append, List.mem_append] at h
     rcases h with h | h
     ·
      exact h2 h
     ·
      simp at h; exact hn ⟨n, by omega, by rw [txAt_eq _ n (by omega)]; exact h.symm, named_no.2 h2⟩
   have := key _ (Nat.le_refl _); rw [List.take_length] at this; exact this hx
  rcases h with h | h
  ·
   unfold scT at h; rw [Bool.or_eq_true, Bool.or_eq_true] at h
   rcases h with (h | h) | h
   ·
    obtain ⟨s, hs⟩ := (rep_iff _).1 h; exact rtw_many (s := s) (by unfold manyT; have := hge s; omega)
   ·
    obtain ⟨y, hy, hn⟩ := List.any_eq_true.1 h; obtain ⟨k, hk, hx, hno⟩ := first _ (named_iff.1 hn)
    refine rtw_hit hk ?_; unfold hitT; have h1 := (hl y.tx).2 (List.mem_map_of_mem hy); have h2 := hge y.tx; rw [hx, hno, decide_eq_true (show 2 ≤ manyT t y.tx by unfold manyT; omega)]
    rfl
   ·
    obtain ⟨y, hy, hn⟩ := List.any_eq_true.1 h; have h1 := (hl y.tx).2 (List.mem_map_of_mem hy); have h2 := (hv0 y.tx).2 hn; exact rtw_many (s := y.tx) (by unfold manyT; omega)
  ·
   rw [Bool.and_eq_true] at h; have hb : body = false := by simpa using h.1
   subst hb; have h := h.2; unfold scU at h; rw [Bool.or_eq_true] at h
   rcases h with h | h
   ·
    obtain ⟨i, hi, h1⟩ := List.any_eq_true.1 h; refine rtw_hit (List.mem_range.1 hi) ?_; unfold repF at h1; unfold hitT; rw [h1]; rfl
   ·
    obtain ⟨y, hy, hn⟩ := List.any_eq_true.1 h; obtain ⟨k, hk, hx, hno⟩ := first y.tx (List.mem_map_of_mem hy)
    refine rtw_hit hk ?_; unfold hitT; have h1 := (hv0 y.tx).2 hn; have h2 := hge y.tx; rw [hx, hno, decide_eq_true (show 0 < manyT t y.tx by unfold manyT; omega)]
    simp
theorem oE_sc (t : Tr) (body : Bool) : oE (rtw t body) 9 = scE t body := by
 unfold oE scE
 rw [rtw_eq]
theorem chks_all (s i b : Bool) : ∀ ts : List Tr, chks ts s i b = allR (fun k => chk k s i b) ts
 | [] => by rw [chks, allR]
 | t :: ts => by rw [chks, allR, chks_all s i b ts]; rfl
theorem allR_eq {f g : Tr → Option Int} : ∀ ts : List Tr, (∀ k ∈ ts, f k = g k) → allR f ts = allR g ts
 | [], _ => rfl
 | t :: ts, h => by rw [allR, allR, h t (List.mem_cons_self ..), allR_eq ts (fun k hk => h k (List.mem_cons_of_mem _ hk))]
theorem allR_none {f : Tr → Option Int} : ∀ ts : List Tr, (∀ k ∈ ts, f k = none) → allR f ts = none
 | [], _ => rfl
 | t :: ts, h => by rw [allR, h t (List.mem_cons_self ..)]; exact allR_none ts (fun k hk => h k (List.mem_cons_of_mem _ hk))
abbrev inner (c : Nat) : Prop := c ≠ 4 ∧ c ≠ 5 ∧ c ≠ 6 ∧ c ≠ 9
theorem Shp.vl {Nm : ByteArray → Prop} {t : Tr} (h : Shp Nm 0 t) : declK t = false := by
 cases h with
 | lit hk => rcases hk with rfl | rfl | rfl | rfl <;> rfl
 | one hk => rcases hk with rfl | rfl | rfl <;> rfl
 | @two kd a b hk => unfold declK; simp [Tr.kd]; omega
 | _ => rfl
theorem Shp.plain {Nm : ByteArray → Prop} {c : Nat} {t : Tr} (h : Shp Nm c t) (hc : inner c) : t.kd ≠ 1 ∧ (t.kd = 6 → t.tx = noText) ∧ (isFunT t = false → ∀ k ∈ t.kids, ∃ c', Shp Nm c' k ∧ inner c') ∧ (t.kd = 7 ∨ t.kd = 8 ∨ t.kd = 9 → t.kids.any declK = (t.kids.drop 1).any declK) := by
 have i0 : inner 0 := ⟨by decide, by decide, by decide, by decide⟩
 have i1 : inner 1 := ⟨by decide, by decide, by decide, by decide⟩
 have i2 : inner 2 := ⟨by decide, by decide, by decide, by decide⟩
 have i3 : inner 3 := ⟨by decide, by decide, by decide, by decide⟩
 have i7 : inner 7 := ⟨by decide, by decide, by decide, by decide⟩
 have i8 : inner 8 := ⟨by decide, by decide, by decide, by decide⟩
 induction h with
 | sblk _ ih => exact ih i3
 | pars => exact absurd rfl hc.2.1
 | par => exact absurd rfl hc.2.2.1
 | body => exact absurd rfl hc.1
 | prog => exact absurd rfl hc.2.2.2
 | lam => exact ⟨by simp [Tr.kd], by simp [Tr.kd], fun e => by simp [isFunT, Tr.kd] at e, by simp [Tr.kd]⟩
 | func => exact ⟨by simp [Tr.kd], by simp [Tr.kd], fun e => by simp [isFunT, Tr.kd] at e, by simp [Tr.kd]⟩
 | lit hk => rcases hk with rfl | rfl | rfl | rfl <;> simp [Tr.kd, Tr.kids]
 | one hk ht => refine ⟨?_, ?_, fun _ k hk => ⟨0, by rw [List.mem_singleton.1 hk]; exact ht, i0⟩, ?_⟩ <;> rcases hk with rfl | rfl | rfl <;> simp [Tr.kd]
 | @two kd a b hk ha hb =>
  refine ⟨by simp [Tr.kd]; omega, by simp [Tr.kd]; omega, fun _ k hk => ?_, by simp [Tr.kd]; omega⟩
  simp [Tr.kids] at hk; rcases hk with rfl | rfl <;> first | exact ⟨0, ha, i0⟩ | exact ⟨0, hb, i0⟩
 | decl hk _ hv => refine ⟨?_, ?_, fun _ k hk => ⟨0, hv k hk, i0⟩, ?_⟩ <;> rcases hk with rfl | rfl | rfl <;> simp [Tr.kd]
 | give hk hv => refine ⟨?_, ?_, fun _ k hk => ⟨0, hv k hk, i0⟩, ?_⟩ <;> rcases hk with rfl | rfl <;> simp [Tr.kd]
 | loop hk hv hs =>
  refine ⟨?_, ?_, fun _ k hk => ?_, fun _ => by simp [Tr.kids, hv.vl]⟩
  ·
   rcases hk with rfl | rfl <;> simp [Tr.kd]
  ·
   rcases hk with rfl | rfl <;> simp [Tr.kd]
  ·
   simp [Tr.kids] at hk; rcases hk with rfl | rfl <;> first | exact ⟨0, hv, i0⟩ | exact ⟨1, hs, i1⟩
 | sif hv hs =>
  refine ⟨by simp [Tr.kd], by simp [Tr.kd], fun _ k hk => ?_, fun _ => by simp [Tr.kids, hv.vl]⟩; simp [Tr.kids] at hk; rcases hk with rfl | rfl <;> first | exact ⟨0, hv, i0⟩ | exact ⟨1, hs, i1⟩
 | sife hv hs he =>
  refine ⟨by simp [Tr.kd], by simp [Tr.kd], fun _ k hk => ?_, fun _ => by simp [Tr.kids, hv.vl]⟩; simp [Tr.kids] at hk; rcases hk with rfl | rfl | rfl <;> first | exact ⟨0, hv, i0⟩ | exact ⟨1, hs, i1⟩ | exact ⟨1, he, i1⟩
 | atm hb hcc hf =>
  refine ⟨by simp [Tr.kd], by simp [Tr.kd], fun _ k hk => ?_, by simp [Tr.kd]⟩
  rcases List.mem_cons.1 hk with rfl | hk
  ·
   exact ⟨3, hb, i3⟩
  ·
   rcases List.mem_append.1 hk with hk | hk
   ·
    exact ⟨7, hcc k hk, i7⟩
   ·
    exact ⟨8, hf k hk, i8⟩
 | call ht hs =>
  refine ⟨by simp [Tr.kd], by simp [Tr.kd], fun _ k hk => ?_, by simp [Tr.kd]⟩
  rcases List.mem_cons.1 hk with rfl | hk
  ·
   exact ⟨0, ht, i0⟩
  ·
   exact ⟨0, hs k hk, i0⟩
 | asg _ ha hb =>
  refine ⟨by simp [Tr.kd], by simp [Tr.kd], fun _ k hk => ?_, by simp [Tr.kd]⟩; simp [Tr.kids] at hk; rcases hk with rfl | rfl <;> first | exact ⟨0, ha, i0⟩ | exact ⟨0, hb, i0⟩
 | obj hs => exact ⟨by simp [Tr.kd], by simp [Tr.kd], fun _ k hk => ⟨2, hs k hk, i2⟩, by simp [Tr.kd]⟩
 | blk hs => exact ⟨by simp [Tr.kd], fun _ => rfl, fun _ k hk => ⟨1, hs k hk, i1⟩, by simp [Tr.kd]⟩
 | memb _ h => exact ⟨by simp [Tr.kd], by simp [Tr.kd], fun _ k hk => ⟨0, by rw [List.mem_singleton.1 hk]; exact h, i0⟩, by simp [Tr.kd]⟩
 | prop _ h => exact ⟨by simp [Tr.kd], by simp [Tr.kd], fun _ k hk => ⟨0, by rw [List.mem_singleton.1 hk]; exact h, i0⟩, by simp [Tr.kd]⟩
 | expr h => exact ⟨by simp [Tr.kd], by simp [Tr.kd], fun _ k hk => ⟨0, by rw [List.mem_singleton.1 hk]; exact h, i0⟩, by simp [Tr.kd]⟩
 | cat _ h => exact ⟨by simp [Tr.kd], by simp [Tr.kd], fun _ k hk => ⟨3, by rw [List.mem_singleton.1 hk]; exact h, i3⟩, by simp [Tr.kd]⟩
 | fin h => exact ⟨by simp [Tr.kd], by simp [Tr.kd], fun _ k hk => ⟨3, by rw [List.mem_singleton.1 hk]; exact h, i3⟩, by simp [Tr.kd]⟩
 | _ => simp [Tr.kd, Tr.kids]
theorem noStrict : ¬ noText = tStrict := by decide
theorem rck_eq {Nm : ByteArray → Prop} : ∀ (d : Nat) (t : Tr) (c : Nat), Shp Nm c t → inner c → t.count ≤ d → ∀ s i, rck d t s i = chk t s i false
 | 0, t, c, _, _, ht, s, i => by cases t with | mk kd tx nn ks => rw [count_mk] at ht; omega
 | d + 1, t, c, hsh, hc, ht, s, i => by
  have htc : t.count = 1 + Tr.counts t.kids := by cases t with | mk kd tx nn ks => exact count_mk _ _ _ _
  have hle : ∀ k ∈ t.kids, k.count ≤ d := fun k hk => by
   obtain ⟨j, hj, rfl⟩ := List.mem_iff_getElem.1 hk; have := counts_le t.kids j hj; omega
  obtain ⟨h1, h6, hk, h7⟩ := hsh.plain hc; rw [rck, chk_eq]
  cases hf : isFunT t with
  | false =>
   have hst : strictT t = false := by
    unfold strictT
    by_cases e6 : t.kd = 6
    ·
     rw [h6 e6, decide_eq_false noStrict, Bool.and_false]
    ·
     rw [beq_false_of_ne h1, beq_false_of_ne e6]; rfl
   have e1 : sR t s = s := by unfold sR; rw [hf]; rfl
   have e2 : s2 t s = s := by unfold s2; rw [hf, hst]; simp
   have e3 : i2 t i = i := by unfold i2; rw [hf]; rfl
   have e4 : partsE t = t.kids := by unfold partsE; rw [hf]; rfl
   have e5 : rwrT t s i = wrT t s i false := by
    have n5 : t.kd ≠ 5 ∧ t.kd ≠ 37 := by
     unfold isFunT at hf; rw [Bool.or_eq_false_iff] at hf; exact ⟨fun e => by rw [e] at hf; exact absurd hf.1 (by decide), fun e => by rw [e] at hf; exact absurd hf.2 (by decide)⟩
    unfold rwrT wrT; rw [hf, if_neg (by decide), if_neg h1]
    by_cases e6 : t.kd = 6
    ·
     rw [if_pos e6, if_pos e6, oE_sc]
    have m5 : ¬ (t.kd = 5 ∨ t.kd = 37) := fun e => e.elim n5.1 n5.2; rw [if_neg e6, if_neg e6, if_neg m5]
    by_cases e7 : t.kd = 7 ∨ t.kd = 8 ∨ t.kd = 9
    ·
     have m2 : ¬ (t.kd = 2 ∨ t.kd = 3 ∨ t.kd = 4) := by omega
     have m13 : ¬ t.kd = 13 := by omega
     rw [if_neg m2, if_neg m2, if_neg m13, if_neg m13, if_pos e7, if_pos e7]; unfold oE brE; rw [h7 e7, Bool.and_comm]
    ·
     rw [if_neg e7, if_neg e7]
   rw [e1, e2, e3, e4, e5, chks_all]
   cases wrT t s i false with
   | some e => rfl
   | none =>
    refine allR_eq _ (fun k hk2 => ?_); obtain ⟨c', hs', hi'⟩ := hk hf k hk2; exact rck_eq d k c' hs' hi' (hle k hk2) s i
  | true =>
   obtain ⟨hl2, hp, hb⟩ := (hsh.need2).2.2 hf; have hkd : t.kd = 5 ∨ t.kd = 37 := by
    unfold isFunT at hf; simpa using hf
   obtain ⟨P, B, hPB⟩ : ∃ P B, t.kids = [P, B] := by
    cases hk : t.kids with
    | nil => rw [hk] at hl2; cases hl2
    | cons a l => cases l with
     | nil => rw [hk] at hl2; cases hl2
     | cons b l => cases l with
      | nil => exact ⟨a, b, rfl⟩
      | cons x l => rw [hk] at hl2; simp at hl2
   have k0 : kidT t 0 = P := by unfold kidT; rw [hPB]; rfl
   have k1 : kidT t 1 = B := by unfold kidT; rw [hPB]; rfl
   rw [k0] at hp; rw [k1] at hb; have hcB : B.count ≤ d := hle B (by rw [hPB]; simp)
   have hst : strictT t = false := by
    unfold strictT
    rcases hkd with e | e <;> rw [e] <;> rfl
   have hsB : strictT B = decide (B.tx = tStrict) := by
    cases hb with
    | body => rfl
   have e1 : sR t s = (s || decide (B.tx = tStrict)) := by unfold sR; rw [hf, k1]; rfl
   have e2 : s2 t s = (s || decide (B.tx = tStrict)) := by unfold s2; rw [hf, hst, k1, hsB]; simp
   have e3 : i2 t i = true := by unfold i2; rw [hf]; rfl
   have e4 : partsE t = B.kids := by unfold partsE; rw [hf, k1]; rfl
   rw [e1, e2, e3, e4]
   generalize hz : (s || decide (B.tx = tStrict)) = z
   have e5 : wrT t z true false = fnE t z := by unfold wrT; rw [if_neg (by omega), if_neg (by omega), if_pos hkd]
   have e6 : rwrT t z i = match fnE t z with
     | some e => some e
     | none => oE (rtw (kidT t 1) true) 9 := by unfold rwrT; rw [hf, if_pos rfl]; rfl
   rw [e5, e6, k1, oE_sc, hPB, chks_all]; have hP : chk P z true true = none := by
    cases hp with
    | @pars ps hs hl =>
     rw [chk_eq]; have : wrT (Tr.mk 40 noText 0 ps) (s2 (Tr.mk 40 noText 0 ps) z) (i2 (Tr.mk 40 noText 0 ps) true) true = none := rfl; rw [this, chks_all]; refine allR_none _ (fun k hk => ?_)
     cases hs k hk with
     | par h => rw [chk_eq]; rfl
   have hB : chk B z true true = match scE B true with
     | some e => some e
     | none => allR (fun k => chk k z true false) B.kids := by
    have hzB : s2 B z = z := by
     have hfB : isFunT B = false := by cases hb with | body => rfl
     unfold s2; rw [hfB, hsB]
     cases hd : decide (B.tx = tStrict) with
     | false => simp
     | true => rw [hd] at hz; rw [← hz]; simp
    rw [chk_eq, hzB, chks_all]
    cases hb with
    | body => rfl
   have hkB : ∀ k ∈ B.kids, rck d k z true = chk k z true false := by
    cases hb with
    | @body tx ts htx hs =>
     intro k hk; refine rck_eq d k 1 (hs k hk) ⟨by decide, by decide, by decide, by decide⟩ ?_ z true; obtain ⟨j, hj, rfl⟩ := List.mem_iff_getElem.1 hk; have h2 := counts_le ts j hj; rw [count_mk] at hcB
     show (ts[j]).count ≤ d
     omega
   rw [allR, hP]; simp only; rw [allR, hB, allR]
   cases fnE t z with
   | some e => rfl
   | none =>
    simp only
    cases scE B true with
    | some e => rfl
    | none =>
     simp only; rw [allR_eq _ hkB]
     cases allR (fun k => chk k z true false) B.kids <;> rfl
theorem early_eq {Nm : ByteArray → Prop} {t : Tr} (h : Shp Nm 9 t) (s i : Bool) : rearT t s i = chk t s i false := by
 have htc : t.count = 1 + Tr.counts t.kids := by cases t with | mk kd tx nn ks => exact count_mk _ _ _ _
 unfold rearT
 rw [oE_sc, chk_eq]
 cases h with
 | @prog tx ts ht hs =>
  have e1 : s2 (Tr.mk 1 tx 0 ts) s = (s || decide (tx = tStrict)) := rfl; rw [e1, chks_all]; have e2 : wrT (Tr.mk 1 tx 0 ts) (s || decide (tx = tStrict)) (i2 (Tr.mk 1 tx 0 ts) i) false = scE (Tr.mk 1 tx 0 ts) true := rfl
  rw [e2]
  cases scE (Tr.mk 1 tx 0 ts) true with
  | some e => rfl
  | none =>
   refine allR_eq _ (fun k hk => rck_eq _ k 1 (hs k hk) ⟨by decide, by decide, by decide, by decide⟩ ?_ _ _); obtain ⟨j, hj, rfl⟩ := List.mem_iff_getElem.1 hk; have := counts_le ts j hj
   show (ts[j]).count ≤ _
   rw [count_mk]; have h2 : (ts[j]).count ≤ Tr.counts ts := this; omega
end Go.Proofs.YtodmgaikhbmlnaaGreatDoor
namespace Go.Proofs.YtodmgaikhbmlnaaGreatDoor
open Go.RowKit
structure PC where
 P : Nat
 l : List Tk
 tb : Nat
 cap : Nat
 lo : Nat
def PC.tv (c : PC) : Value := .slice (some ⟨c.tb, 0, none⟩) c.l.length c.cap
abbrev pPtr (c : PC) : Value := .pointer (some ⟨c.P, 0, none⟩)
structure PB (c : PC) (w : World) : Prop where
 ends : Ends c.l
 tokens : ∃ cur, w.heap[c.tb]? = some (.cells cur 68 (0, 0)) ∧ c.l.length ≤ c.cap ∧ c.cap ≤ maxLen ∧ cur.size = c.cap * 4 ∧ cur.toList.take (c.l.length * 4) = tksCells c.l
 ntb : c.tb ≠ c.P
 len : c.l.length ≤ 3001
 old : c.tb < c.lo ∧ c.P < c.lo
 size : c.lo ≤ w.heap.size
theorem PB.later {c : PC} {B : Nat} {w w' : World} (h : PB c w) (ha : Ap c.P B w w') (hB : c.lo ≤ B) : PB c w' := by
 obtain ⟨h0, ⟨cur, h1, h1'⟩, h2, h3, h4, h5⟩ := h
 exact ⟨h0, ⟨cur, by rw [ha.block _ (by omega) h2]; exact h1, h1'⟩, h2, h3, h4, Nat.le_trans h5 ha.size⟩
def prObj (c : PC) (i : Nat) (er pl : Int) : Obj := .cells #[c.tv, .int .i64 (i : Int), .int .i64 er, .int .i64 pl] 66 (0, 0)
structure Ps (c : PC) (w : World) (i : Nat) (er pl : Int) : Prop where
 base : PB c w
 blk : w.heap[c.P]? = some (prObj c i er pl)
 lt : i < c.l.length
theorem Ps.later {c : PC} {w w' : World} {i : Nat} {er pl : Int} (h : Ps c w i er pl) (ha : Below w.heap.size w w') : Ps c w' i er pl :=
 ⟨h.base.later (Ap.of ha) h.base.size, by rw [ha.block _ (lt_of_heap h.blk)]; exact h.blk, h.lt⟩
section
variable {c : PC} {w : World} {i : Nat} {er pl : Int} (h : Ps c w i er pl)
include c w i er pl h
theorem Ps.rlt : c.P < w.heap.size := lt_of_heap h.blk
theorem Ps.c0 : w.cell? ⟨c.P, 0, none⟩ = some (.slice (some ⟨c.tb, 0, none⟩) c.l.length c.cap) := by rw [cell_of h.blk]; rfl
theorem Ps.c1 : w.cell? ⟨c.P, 1, none⟩ = some (.int .i64 (i : Int)) := by rw [cell_of h.blk]; rfl
theorem Ps.c2 : w.cell? ⟨c.P, 2, none⟩ = some (.int .i64 er) := by rw [cell_of h.blk]; rfl
theorem Ps.c3 : w.cell? ⟨c.P, 3, none⟩ = some (.int .i64 pl) := by rw [cell_of h.blk]; rfl
theorem Ps.fz (o : Nat) : w.frozen? ⟨c.P, o, none⟩ = false := frozen_of h.blk o
end
section
variable {c : PC} {w : World}
include c w
theorem PB.tok (h : PB c w) (i j : Nat) (hi : i < c.l.length) (hj : j < 4) : w.cell? ⟨c.tb, i * 4 + j, none⟩ = (tkCells (tkA c.l i))[j]? := by
 exact zbfq
theorem PB.tlt (h : PB c w) : c.tb < w.heap.size := by
 obtain ⟨cur, hb, _⟩ := h.tokens
 exact lt_of_heap hb
theorem Ps.toks {i : Nat} {er pl : Int} (h : Ps c w i er pl) :
  w.cell? ⟨c.tb, i * 4, none⟩ = some (.int .i64 (tkA c.l i).kd) ∧ w.cell? ⟨c.tb, i * 4 + 1, none⟩ = some (.string (tkA c.l i).tx) ∧ w.cell? ⟨c.tb, i * 4 + 2, none⟩ = some (.int .i64 (tkA c.l i).n) ∧ w.cell? ⟨c.tb, i * 4 + 3, none⟩ = some (.int .i64 ((tkA c.l i).pl : Int)) :=
 ⟨h.base.tok i 0 h.lt (by decide), h.base.tok i 1 h.lt (by decide), h.base.tok i 2 h.lt (by decide), h.base.tok i 3 h.lt (by decide)⟩
theorem Ps.step {i j : Nat} {er pl : Int} (h : Ps c w i er pl) (hj : j < c.l.length) : Ps c (w.setCell ⟨c.P, 1, none⟩ (.int .i64 (j : Int))) j er pl :=
 ⟨h.base.later ((Ap.refl c.P c.lo w).setCell (p := ⟨c.P, 1, none⟩) (Or.inr rfl) _) (Nat.le_refl _), by rw [heap_set h.blk]; rfl, hj⟩
end
section
variable {c : PC} {w : World} {i : Nat} {er pl : Int} (h : Ps c w i er pl)
include c w i er pl h
theorem Ps.fault (e p : Int) : Ps c ((w.setCell ⟨c.P, 2, none⟩ (.int .i64 e)).setCell ⟨c.P, 3, none⟩ (.int .i64 p)) i e p :=
 ⟨h.base.later (((Ap.refl c.P c.lo w).setCell (p := ⟨c.P, 2, none⟩) (Or.inr rfl) _).setCell (p := ⟨c.P, 3, none⟩) (Or.inr rfl) _) (Nat.le_refl _), by rw [heap_set (heap_set h.blk _)]; rfl, h.lt⟩
theorem Ps.drew : Ps c w.drew i er pl := h.later (Below.refl _ _).drew
theorem Ps.alloc (o : Obj) : Ps c (w.alloc o) i er pl := h.later ((Below.refl _ _).alloc (Nat.le_refl _) o)
end
def NPost (c : PC) (w : World) (er pl : Int) (Z : Value → Prop) (e : Ending) (w' : World) : Prop :=
 (∃ v, e = .returned v ∧ Z v) ∧ (∃ j, Ps c w' j er pl) ∧ er ≠ 0 ∧ Ap c.P w.heap.size w w'
def QPost {α : Type} (c : PC) (w : World) (N : World → α → Value → Prop) (Z : Value → Prop) (r : PR α) (e : Ending) (w' : World) : Prop :=
 match r with
 | .ok x j => (∃ v, e = .returned v ∧ N w' x v) ∧ Ps c w' j 0 (-1) ∧ Ap c.P w.heap.size w w'
 | .bad er pl => NPost c w er (pl : Int) Z e w'
 | .out => True
abbrev ZN (v : Value) : Prop := ∃ q, v = nPtr q
abbrev ZU (v : Value) : Prop := v = .tuple #[]
abbrev ZT (v : Value) : Prop := ∃ s, v = .string s
abbrev ZL (v : Value) : Prop := ∃ a n k, v = .slice a n k
section
variable (c : PC) (w : World) (i : Nat)
include c w i
theorem rok_any (er pl : Int) (h : Ps c w i er pl) :
  Calls Tryz.prog 46 #[pPtr c] w fun e w' => e = .returned (.bool (er == 0)) ∧ w' = w := by
 have c2 := h.c2
 clear h
 go_enter Tryz.func46, Tryz.ntmps46
 go_wp2_with fail
 go_ret
 exact ⟨rfl, rfl⟩
theorem rfail_new (e0 : Int) (he : e0 ≠ 0) (h : Ps c w i 0 (-1)) :
  Calls Tryz.prog 98 #[pPtr c, .int .i64 e0] w (NPost c w e0 ((tkA c.l i).pl : Int) ZN) := by
 have HC := hide (rok_any c w i 0 (-1) h)
 have h0 : w.cell? ⟨c.P, 0, none⟩ = _ := h.c0
 have h1 : w.cell? ⟨c.P, 1, none⟩ = _ := h.c1
 have h2 : w.cell? ⟨c.P, 2, none⟩ = _ := h.c2
 have h3 : w.cell? ⟨c.P, 3, none⟩ = _ := h.c3
 have f2 : w.frozen? ⟨c.P, 2, none⟩ = false := h.fz 2
 have f3 : w.frozen? ⟨c.P, 3, none⟩ = false := h.fz 3
 have k3 : w.cell? ⟨c.tb, i * 4 + 3, none⟩ = _ := h.toks.2.2.2
 have hlt : (i : Int) < (c.l.length : Int) := by have := h.lt; omega
 have hR := h.rlt
 have HP := hide h
 clear h
 go_enter Tryz.func98, Tryz.ntmps98
 go_wp2_with fail
 refine cm HC.out ?_
 rintro e w1 ⟨rfl, rfl⟩
 clear HC
 go_wp2_with fail
 go_region
 go_wp2_with fail
 go_ret
 refine ⟨⟨_, rfl, _, rfl⟩, ⟨i, (HP.out.fault e0 _).alloc _ |>.drew⟩, he, ?_⟩
 exact ((((Ap.refl c.P w1.heap.size w1).setCell (p := ⟨c.P, 2, none⟩) (Or.inr rfl) _).setCell (p := ⟨c.P, 3, none⟩) (Or.inr rfl) _).alloc (by simp) _).drew
theorem rfail_old (er pl e0 : Int) (he : er ≠ 0) (h : Ps c w i er pl) :
  Calls Tryz.prog 98 #[pPtr c, .int .i64 e0] w (NPost c w er pl ZN) := by
 have hc := rok_any c w i er pl h
 rw [beq_eq_false_iff_ne.2 he] at hc
 have HC := hide hc
 have HP := hide h
 clear h hc
 go_enter Tryz.func98, Tryz.ntmps98
 exact zbdj
theorem rnext_old (er pl : Int) (he : er ≠ 0) (s : ByteArray) (h : Ps c w i er pl) :
  Calls Tryz.prog 99 #[pPtr c, .string s] w fun e w' => e = .returned (.bool false) ∧ Below w.heap.size w w' := by
 have h0 := h.c0
 have h1 := h.c1
 obtain ⟨k0, k1, k2, k3⟩ := h.toks
 have hlt : (i : Int) < (c.l.length : Int) := by have := h.lt; omega
 have hR := h.rlt
 have hT := h.base.tlt
 have hc := fun o => rok_any c (w.alloc o).drew i er pl (h.alloc o).drew
 rw [beq_eq_false_iff_ne.2 he] at hc
 have HC := hide hc
 clear h hc
 exact zbbp
end
theorem fx_is {l : List Tk} {i : Nat} {s : ByteArray} (hs : s ≠ noText) : fx l i = s ↔ ((tkA l i).kd = 2 ∨ (tkA l i).kd = 5) ∧ (tkA l i).tx = s := by
 unfold fx
 by_cases h : (tkA l i).kd = 2 ∨ (tkA l i).kd = 5
 ·
  rw [if_pos (by simpa using h)]; exact ⟨fun e => ⟨h, e⟩, fun e => e.2⟩
 ·
  rw [if_neg (by simpa using h)]; exact ⟨fun e => absurd e.symm hs, fun e => absurd e.1 h⟩
section
variable (c : PC) (w : World) (i : Nat)
include c w i
theorem rnext_any (s : ByteArray) (hs : s ≠ noText) (h : Ps c w i 0 (-1)) :
  Calls Tryz.prog 99 #[pPtr c, .string s] w fun e w' => e = .returned (.bool (decide (fx c.l i = s))) ∧ Below w.heap.size w w' := by
 have h0 := h.c0
 have h1 := h.c1
 obtain ⟨k0, k1, k2, k3⟩ := h.toks
 have hlt : (i : Int) < (c.l.length : Int) := by have := h.lt; omega
 have hR := h.rlt
 have hT := h.base.tlt
 have HC := hide (fun o => rok_any c (w.alloc o).drew i 0 (-1) (h.alloc o).drew)
 have HF := hide (fx_is (l := c.l) (i := i) hs)
 clear h
 generalize tkA c.l i = t at k0 k1 k2 k3 HF
 by_cases h2 : t.kd = 2
 ·
  have b2 : (t.kd == 2) = true := beq_iff_eq.2 h2
  by_cases ht : t.tx = s
  ·
   have bt := tl_eq ht; have hd : decide (fx c.l i = s) = true := decide_eq_true (HF.out.2 ⟨Or.inl h2, ht⟩); rw [hd]; clear hd ht h2 HF; exact zbbp
  ·
   have bt := tl_ne ht; have hd : decide (fx c.l i = s) = false := decide_eq_false fun e => ht (HF.out.1 e).2; rw [hd]; clear hd ht h2 HF; exact zbbp
 ·
  have b2 : (t.kd == 2) = false := beq_eq_false_iff_ne.2 h2
  by_cases h5 : t.kd = 5
  ·
   have b5 : (t.kd == 5) = true := beq_iff_eq.2 h5
   by_cases ht : t.tx = s
   ·
    have bt := tl_eq ht; have hd : decide (fx c.l i = s) = true := decide_eq_true (HF.out.2 ⟨Or.inr h5, ht⟩); rw [hd]; clear hd ht h2 h5 HF; exact zbbp
   ·
    have bt := tl_ne ht; have hd : decide (fx c.l i = s) = false := decide_eq_false fun e => ht (HF.out.1 e).2; rw [hd]; clear hd ht h2 h5 HF; exact zbbp
  ·
   have b5 : (t.kd == 5) = false := beq_eq_false_iff_ne.2 h5; have hd : decide (fx c.l i = s) = false := decide_eq_false fun e => by have := (HF.out.1 e).1; omega
   rw [hd]; clear hd h2 h5 HF; exact zbbp
theorem rskip_old (er pl : Int) (he : er ≠ 0) (s : ByteArray) (h : Ps c w i er pl) :
  Calls Tryz.prog 101 #[pPtr c, .string s] w fun e w' => e = .returned (.bool false) ∧ Below w.heap.size w w' := by
 have HC := hide (rnext_old c w i er pl he s h)
 clear h
 exact zbfj
theorem rskip_no (s : ByteArray) (hs : s ≠ noText) (hf : ¬ fx c.l i = s) (h : Ps c w i 0 (-1)) :
  Calls Tryz.prog 101 #[pPtr c, .string s] w fun e w' => e = .returned (.bool false) ∧ Below w.heap.size w w' := by
 have hc := rnext_any c w i s hs h
 rw [decide_eq_false hf] at hc
 have HC := hide hc
 clear h hc hf
 exact zbfj
theorem rskip_yes (s : ByteArray) (hs : s ≠ noText) (hf : fx c.l i = s) (h : Ps c w i 0 (-1)) :
  Calls Tryz.prog 101 #[pPtr c, .string s] w fun e w' => e = .returned (.bool true) ∧ Ps c w' (i + 1) 0 (-1) ∧ Ap c.P w.heap.size w w' := by
 have hc := rnext_any c w i s hs h
 rw [decide_eq_true hf] at hc
 have hl := fx_lt h.base.ends h.lt hf hs
 have hl3 := h.base.len
 have HC := hide hc
 have HP := hide h
 clear h hc hf
 go_enter Tryz.func101, Tryz.ntmps101
 go_wp2_with fail
 refine cm HC.out ?_
 rintro e w1 ⟨rfl, hb⟩
 have hp := HP.out.later hb
 have h1 := hp.c1
 have f1 := hp.fz 1
 have HB := hide hb
 have HP1 := hide hp
 clear HC hb hp
 go_wp2_with fail
 go_ret
 have hn : ((i : Int) + 1) = (((i + 1 : Nat)) : Int) := by omega
 exact ⟨rfl, by rw [hn]; exact HP1.out.step hl, (Ap.of HB.out).trans ((Ap.refl c.P _ w1).setCell (p := ⟨c.P, 1, none⟩) (Or.inr rfl) _)⟩
end
theorem ppU {c : PC} {w w' : World} {i : Nat} (h : Ps c w' i 0 (-1)) (ha : Ap c.P w.heap.size w w') : QPost c w (fun _ (_ : Unit) v => ZU v) ZU (.ok () i) (.returned (.tuple #[])) w' := ⟨⟨_, rfl, rfl⟩, h, ha⟩
section
variable (c : PC) (w : World) (i : Nat)
include c w i
theorem rmust_old (er pl : Int) (he : er ≠ 0) (s : ByteArray) (h : Ps c w i er pl) :
  Calls Tryz.prog 106 #[pPtr c, .string s] w fun e w' => e = .returned (.tuple #[]) ∧ w' = w := by
 have hc := rok_any c w i er pl h
 rw [beq_eq_false_iff_ne.2 he] at hc
 have HC := hide hc
 clear h hc
 go_enter Tryz.func106, Tryz.ntmps106
 go_wp2_with fail
 refine cm HC.out ?_
 rintro e w1 ⟨rfl, rfl⟩
 clear HC
 go_wp2_with fail
 go_end0
 exact ⟨rfl, rfl⟩
theorem rmust_any (s : ByteArray) (hs : s ≠ noText) (h : Ps c w i 0 (-1)) :
  Calls Tryz.prog 106 #[pPtr c, .string s] w (QPost c w (fun _ (_ : Unit) v => ZU v) ZU (mustP c.l s i)) := by
 have HC := hide (rok_any c w i 0 (-1) h)
 by_cases hf : fx c.l i = s
 ·
  have hm : mustP c.l s i = .ok () (i + 1) := by unfold mustP; rw [if_pos hf]
  rw [hm]; have HC2 := hide (rskip_yes c w i s hs hf h); clear h hm hf; go_enter Tryz.func106, Tryz.ntmps106; go_wp2_with fail; refine cm HC.out ?_; rintro e w1 ⟨rfl, rfl⟩; clear HC; go_wp2_with fail; refine cm HC2.out ?_
  rintro e w2 ⟨rfl, hp, ha⟩; have HP := hide hp; have HA := hide ha; clear HC2 hp ha; go_wp2_with fail
  go_end0
  exact ppU HP.out HA.out
 ·
  have hm : mustP c.l s i = .bad 3 (tkA c.l i).pl := by unfold mustP badF; rw [if_neg hf]
  rw [hm]; have HC2 := hide (rskip_no c w i s hs hf h); have HP := hide h; clear h hm hf; go_enter Tryz.func106, Tryz.ntmps106; go_wp2_with fail; refine cm HC.out ?_; rintro e w1 ⟨rfl, rfl⟩; clear HC; go_wp2_with fail
  refine cm HC2.out ?_; rintro e w2 ⟨rfl, hb⟩; have HC3 := hide (rfail_new c w2 i 3 (by decide) (HP.out.later hb)); have HB := hide hb; clear HC2 hb; go_wp2_with fail; refine cm HC3.out ?_
  rintro e w3 ⟨⟨v, rfl, q, rfl⟩, hp, he, ha⟩; have HP3 := hide hp; have HA := hide ((Ap.of (R := c.P) HB.out).next ha); clear HC3 hp ha; go_wp2_with fail
  go_end0
  exact ⟨⟨_, rfl, rfl⟩, HP3.out, by decide, HA.out⟩
theorem rident_old (er pl : Int) (he : er ≠ 0) (h : Ps c w i er pl) :
  Calls Tryz.prog 102 #[pPtr c] w fun e w' => e = .returned (.string ⟨#[]⟩) ∧ w' = w := by
 have hc := rok_any c w i er pl h
 rw [beq_eq_false_iff_ne.2 he] at hc
 have HC := hide hc
 clear h hc
 go_enter Tryz.func102, Tryz.ntmps102
 go_wp2_with fail
 refine cm HC.out ?_
 rintro e w1 ⟨rfl, rfl⟩
 clear HC
 go_wp2_with fail
 go_ret
 exact ⟨rfl, rfl⟩
end
abbrev NT (_ : World) (x : ByteArray) (v : Value) : Prop := v = .string x
theorem rident_any (c : PC) (w : World) (i : Nat) (h : Ps c w i 0 (-1)) :
  Calls Tryz.prog 102 #[pPtr c] w (QPost c w NT ZT (nameP c.l i)) := by
 have HC := hide (rok_any c w i 0 (-1) h)
 have h0 := h.c0
 have h1 := h.c1
 have f1 := h.fz 1
 obtain ⟨k0, k1, k2, k3⟩ := h.toks
 have hlt : (i : Int) < (c.l.length : Int) := by have := h.lt; omega
 have hl3 := h.base.len
 have hR := h.rlt
 have hT := h.base.tlt
 have HP := hide h
 have hne := h.base.ntb
 by_cases hk : (tkA c.l i).kd = 1
 ·
  have hm : nameP c.l i = .ok (tkA c.l i).tx (i + 1) := by unfold nameP; rw [if_pos hk]
  rw [hm]; have hl : i + 1 < c.l.length := next_lt h.base.ends h.lt (by rw [hk]; decide)
  rw [hk] at k0; clear h hm hk
  generalize tkA c.l i = t at k0 k1 k2 k3
  go_enter Tryz.func102, Tryz.ntmps102; go_wp2_with fail; refine cm HC.out ?_; rintro e w1 ⟨rfl, rfl⟩; clear HC; go_wp2_with fail
  go_region
  go_wp2_with fail; have m1 : (w1.setCell ⟨c.P, 1, none⟩ (.int .i64 ((i : Int) + 1))).cell? ⟨c.tb, i * 4 + 1, none⟩ = some (.string t.tx) := by
   rw [World.cell?_of_block (w := w1) (Below.heap_setCell w1 ⟨c.P, 1, none⟩ _ c.tb hne)]; exact k1
  go_region
  go_wp2_with fail; go_ret; have hn : ((i : Int) + 1) = (((i + 1 : Nat)) : Int) := by omega
  refine ⟨⟨_, rfl, rfl⟩, ?_, ?_⟩
  ·
   rw [hn]; exact (HP.out.step hl).drew.drew
  ·
   exact (((Ap.refl c.P _ w1).setCell (p := ⟨c.P, 1, none⟩) (Or.inr rfl) _).drew).drew
 ·
  have hm : nameP c.l i = .bad 3 (tkA c.l i).pl := by unfold nameP badF; rw [if_neg hk]
  rw [hm]; have b1 : ((tkA c.l i).kd != 1) = true := by rw [bne_iff_ne]; exact hk
  have HC3 := hide (rfail_new c w.drew i 3 (by decide) h.drew); clear h hm hk; go_enter Tryz.func102, Tryz.ntmps102; go_wp2_with fail; refine cm HC.out ?_; rintro e w1 ⟨rfl, rfl⟩; clear HC; go_wp2_with fail
  go_region
  go_wp2_with fail; refine cm HC3.out ?_; rintro e w3 ⟨⟨v, rfl, q, rfl⟩, hp, he, ha⟩; have HP3 := hide hp; have HA := hide (Ap.next (Ap.refl c.P w1.heap.size w1).drew ha); clear HC3 hp ha; go_wp2_with fail; go_ret
  exact ⟨⟨_, rfl, _, rfl⟩, HP3.out, by decide, HA.out⟩
end Go.Proofs.YtodmgaikhbmlnaaGreatDoor
