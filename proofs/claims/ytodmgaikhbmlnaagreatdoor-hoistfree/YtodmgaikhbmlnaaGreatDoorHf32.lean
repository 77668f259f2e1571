/-
  The document's Vars.
-/
import Derived.Test.YtodmgaikhbmlnaaGreatDoorHf31
set_option maxRecDepth 100000
set_option maxHeartbeats 16000000
namespace Go.Proofs.YtodmgaikhbmlnaaGreatDoor
open Go.RowKit
def RvAt (m : Nat) : Prop := ∀ (t : Tr), t.count ≤ m → t.count ≤ 20000 → ∀ (p : Nat) (w : World), NTr w t p →
  Calls Tryz.prog 30 #[nPtr p] w fun e w' => (∃ u, e = .returned u ∧ SRow w.heap.size w' u (varsT t)) ∧ Below w.heap.size w w'
theorem fold_len : ∀ (l acc : List ByteArray), (l.foldl addB acc).length ≤ acc.length + l.length
 | [], acc => by simp
 | x :: l, acc => by
  have h := fold_len l (addB acc x); have h2 : (addB acc x).length ≤ acc.length + 1 := by unfold addB; split <;> simp
  simp only [List.foldl_cons, List.length_cons]; omega
theorem vars_step (t : Tr) (k : Nat) (hk : k < t.kids.length) : onceL (vws (t.kids.take (k + 1))) = (vw t.kids[k]).foldl addB (onceL (vws (t.kids.take k))) := by
 rw [vws_take t.kids k hk, onceL, List.foldl_append]; rfl
theorem rvars_step {m : Nat} (ih : RvAt m) : RvAt (m + 1) := by
 intro t ht hc p w h
 have htc : t.count = 1 + Tr.counts t.kids := by cases t with | mk kd tx nn ks => exact count_mk _ _ _ _
 obtain ⟨hpl, _, _, u, c3, hr⟩ := h.cells
 obtain ⟨ua, uc, rfl⟩ := hr.form
 have HR := hide hr
 have hkl : t.kids.length ≤ 20000 := by have := counts_len t.kids; omega
 have HIH : Hid (∀ (k : Nat) (hk : k < t.kids.length) (q : Nat) (W : World), NTr W t.kids[k] q → Calls Tryz.prog 30 #[nPtr q] W fun e w' => (∃ u, e = .returned u ∧ SRow W.heap.size w' u (varsT t.kids[k])) ∧ Below W.heap.size W w') := fun k hk q W hq => by
  have h1 := counts_le t.kids k hk; exact ih t.kids[k] (by omega) (by omega) q W hq
 have HLV : Hid (∀ k, (vws (t.kids.take k)).length ≤ 20000) := fun k => by
  have h1 := vws_len (t.kids.take k); have h2 : Tr.counts t.kids = Tr.counts (t.kids.take k) + Tr.counts (t.kids.drop k) := by rw [← counts_app, List.take_append_drop]
  omega
 have HLK : Hid (∀ k (hk : k < t.kids.length), (varsT t.kids[k]).length ≤ 20000) := fun k hk => by
  have h1 := counts_le t.kids k hk; have h2 := vars_len t.kids[k]; have h3 : (t.kids[k]).count = 1 + Tr.counts (t.kids[k]).kids := by cases t.kids[k] with | mk kd tx nn ks => exact count_mk _ _ _ _
  omega
 unfold varsT
 clear h hr htc ht hc ih
 go_enter Tryz.func30, Tryz.ntmps30
 go_wp2_with fail
 go_loopw [3, 15] (fun o j wr => ∃ k : Nat, k ≤ t.kids.length ∧ j = .int .i64 k ∧ SRow w.heap.size wr o (onceL (vws (t.kids.take k))) ∧ Below w.heap.size w wr) (fun _ j _ => t.kids.length - (intOf j).toNat)
 case atStart => exact ⟨0, Nat.zero_le _, rfl, by simpa [vws, onceL] using srow_nil _ _, Below.refl _ _⟩
 case round =>
  obtain ⟨k, hk, rfl, hown, hbel⟩ := hrel; have HOWN := hide hown; have HB := hide hbel; obtain ⟨oa, oc, rfl⟩ := srow_form hown; clear hown hbel c3
  by_cases hlt : k < t.kids.length
  ·
   obtain ⟨g, cap, q, hv, hg, hcc, hn⟩ := (HR.out.later HB.out).cell k hlt; simp only [Value.slice.injEq] at hv; obtain ⟨rfl, _, rfl⟩ := hv; have hki : (k : Int) < (t.kids.length : Int) := by omega
   obtain ⟨hql, q0, q1, _⟩ := hn.cells; have HN := hide hn; have HST := hide (vars_step t k hlt); have HVW := hide (vw_eq t.kids[k])
   have HF := hide (fun W (hW : Below wr.heap.size wr W) => risFunc_any t.kids[k] q W (hn.later hW)); have hol := once_len (vws (t.kids.take k)); have hvl := unhide HLV k; have hvk := unhide HLK k hlt
   have HI := hide (unhide HIH k hlt q); obtain ⟨L, hL⟩ : ∃ L, L = onceL (vws (t.kids.take k)) := ⟨_, rfl⟩; rw [← hL] at HOWN HST hol ⊢; have hLl : L.length ≤ 20000 := by omega
   have hsz := HB.out.size; have HAD := hide (fun s W (hW : Below wr.heap.size wr W) => radd_any L s (.slice oa L.length oc) W (SRow.later HOWN.out hW) (by omega) (Nat.le_trans hsz hW.size))
   generalize t.kids[k] = x at q0 q1 HN HST HVW HF hvk HI
   clear hn hL hol hvl
   cases hk2 : (x.kd == 2) with
   | true =>
    have HOV : Hid (ownVar x = [x.tx]) := by show _ = _; unfold ownVar; rw [hk2]; rfl
    have HC0 := hide (unhide HAD x.tx wr (Below.refl _ _))
    generalize x.tx = tx at q1 HC0 HOV
    generalize x.kd = kd at q0 hk2
    go_wp2_with fail; refine cm HC0.out ?_; rintro e W1 ⟨⟨u1, rfl, hr1⟩, hb1⟩; obtain ⟨L1, hL1⟩ : ∃ L1, L1 = addB L tx := ⟨_, rfl⟩; rw [← hL1] at hr1; obtain ⟨a1, c1, rfl⟩ := srow_form hr1; have HO1 := hide hr1
    have HW1 := hide hb1; have HB1 := hide (HB.out.trans (hb1.mono HB.out.size))
    have hL1l : L1.length ≤ 30000 := by rw [hL1]; have h2 := fold_len [tx] L; simp only [List.foldl_cons, List.foldl_nil, List.length_cons, List.length_nil] at h2; omega
    have HLL := hide hL1; clear HC0 hr1 hb1 hL1
    cases hf : isFunT x with
    | true =>
     rw [hf] at HF HVW; have HC := hide (unhide HF W1 HW1.out); go_wp2_with fail; refine cm HC.out ?_; rintro e w3 ⟨rfl, rfl⟩; clear HC; go_wp2_with fail
     go_roundw
     case rel =>
      refine ⟨k + 1, by omega, by go_num, ?_, HB1.out⟩; rw [HST.out, HVW.out, HOV.out]; simp only [if_true, List.append_nil, List.foldl_cons, List.foldl_nil]; rw [← HLL.out]; exact unhide HO1
     case measure => simp [intOf]; omega
    | false =>
     exact zbas
   | false =>
    have HOV : Hid (ownVar x = []) := by show _ = _; unfold ownVar; rw [hk2]; rfl
    obtain ⟨W1, hW1⟩ : ∃ W1, W1 = wr := ⟨_, rfl⟩; obtain ⟨L1, hL1⟩ : ∃ L1, L1 = L := ⟨_, rfl⟩; have HO1 : Hid (SRow w.heap.size W1 (.slice oa L1.length oc) L1) := by rw [hW1, hL1]; exact unhide HOWN
    have HW1 : Hid (Below wr.heap.size wr W1) := by rw [hW1]; exact Below.refl _ _
    have HB1 : Hid (Below w.heap.size w W1) := by rw [hW1]; exact unhide HB
    have hL1l : L1.length ≤ 30000 := by rw [hL1]; omega
    have HLL := hide hL1; subst hW1; rw [← hL1]
    generalize x.kd = kd at q0 hk2
    clear hL1
    cases hf : isFunT x with
    | true =>
     rw [hf] at HF HVW; have HC := hide (unhide HF W1 HW1.out); go_wp2_with fail; refine cm HC.out ?_; rintro e w3 ⟨rfl, rfl⟩; clear HC; go_wp2_with fail
     go_roundw
     case rel =>
      refine ⟨k + 1, by omega, by go_num, ?_, HB1.out⟩; rw [HST.out, HVW.out, HOV.out]; simp only [if_true, List.append_nil, List.foldl_nil]; rw [← HLL.out]; exact unhide HO1
     case measure => simp [intOf]; omega
    | false =>
     exact zbas
  ·
   have hkk : k = t.kids.length := by omega
   subst hkk; go_wp2_with fail; go_ret; have h := unhide HOWN; rw [List.take_length] at h; refine ⟨⟨_, rfl, ?_⟩, HB.out⟩; rw [List.take_length]; exact h
theorem rvars_all : ∀ m, RvAt m := by
 intro m
 induction m with
 | zero =>
  exact zbdk
 | succ m ih => exact rvars_step ih
theorem rvars_any (t : Tr) (p : Nat) (w : World) (h : NTr w t p) (hc : t.count ≤ 20000) :
  Calls Tryz.prog 30 #[nPtr p] w fun e w' => (∃ u, e = .returned u ∧ SRow w.heap.size w' u (varsT t)) ∧ Below w.heap.size w w' := rvars_all t.count t (Nat.le_refl _) hc p w h
theorem cellR {w : World} {b o : Nat} {v : Value} (h : w.cell? ⟨b, o, none⟩ = some v) : b < w.heap.size := by
 rcases Nat.lt_or_ge b w.heap.size with h1 | h1
 ·
  exact h1
 ·
  have h2 : w.heap[b]? = none := Array.getElem?_eq_none h1; simp [World.cell?, h2] at h
theorem keepR {w X : World} {b o : Nat} {v : Value} (hb : Below w.heap.size w X) (h : w.cell? ⟨b, o, none⟩ = some v) : X.cell? ⟨b, o, none⟩ = some v :=
 (World.cell?_of_block (w := w) (a := ⟨b, o, none⟩) (hb.block b (cellR h))).trans h
def NRow0 (w0 : World) (B : Nat) (w : World) (v : Value) (ts : List Tr) : Prop := ∃ ps : List Nat, w.ownsRow B 22 1 v ps.length (ps.map nPtr) ∧ NAts (fun _ => True) w0 ts ps
theorem NRow0.row {w0 w : World} {B : Nat} {v : Value} {ts : List Tr} (h : NRow0 w0 B w v ts) (hb : Below w0.heap.size w0 w) : NRow B w v ts := by
 obtain ⟨ps, h1, h2⟩ := h
 exact ⟨ps, h1, NAts.later (Below.stay hb) _ _ h2⟩
theorem NRow0.low {w0 w : World} {B B' : Nat} {v : Value} {ts : List Tr} (h : NRow0 w0 B w v ts) (hB : B' ≤ B) : NRow0 w0 B' w v ts := by
 obtain ⟨ps, h1, h2⟩ := h
 refine ⟨ps, ⟨h1.1, ?_⟩, h2⟩
 rcases h1.2 with hn | ⟨g, cap, cur, hv, hb, rest⟩
 ·
  exact Or.inl hn
 ·
  exact Or.inr ⟨g, cap, cur, hv, by omega, rest⟩
theorem NRow0.form {w0 w : World} {B : Nat} {v : Value} {ts : List Tr} (h : NRow0 w0 B w v ts) : ∃ a cap, v = .slice a ts.length cap := by
 obtain ⟨ps, h1, h2⟩ := h
 rw [← NAts.length _ _ h2]
 exact row_shut h1
theorem NRow0.later {w0 w w' : World} {B : Nat} {v : Value} {ts : List Tr} (h : NRow0 w0 B w v ts) (hb : Below w.heap.size w w') : NRow0 w0 B w' v ts := by
 obtain ⟨ps, h1, h2⟩ := h
 exact ⟨ps, owns_stay (I := fun _ => True) (Below.stay hb) (fun _ _ => trivial) h1, h2⟩
def ofK (zs : List Int) (k : Tr) : List Tr := (zs.filter fun z => k.kd == z).map fun _ => k
def ofKs (zs : List Int) : List Tr → List Tr
 | [] => []
 | k :: ks => ofK zs k ++ ofKs zs ks
theorem ofKs_app (zs : List Int) : ∀ a b : List Tr, ofKs zs (a ++ b) = ofKs zs a ++ ofKs zs b
 | [], b => rfl
 | t :: a, b => by simp [ofKs, ofKs_app zs a b]
theorem ofKs_take (zs : List Int) (ts : List Tr) (k : Nat) (hk : k < ts.length) : ofKs zs (ts.take (k + 1)) = ofKs zs (ts.take k) ++ ofK zs ts[k] := by
 rw [List.take_succ_eq_append_getElem hk, ofKs_app]
 simp [ofKs]
theorem ofK_take (zs : List Int) (k : Tr) (i : Nat) (hi : i < zs.length) : ofK (zs.take (i + 1)) k = ofK (zs.take i) k ++ (if k.kd == zs[i] then [k] else []) := by
 unfold ofK
 rw [List.take_succ_eq_append_getElem hi, List.filter_append, List.map_append]
 simp only [List.filter_cons, List.filter_nil]
 split <;> simp
theorem ofK_len (zs : List Int) (k : Tr) : (ofK zs k).length ≤ zs.length := by unfold ofK; rw [List.length_map]; exact List.length_filter_le _ _
theorem ofKs_len (zs : List Int) : ∀ ts : List Tr, (ofKs zs ts).length ≤ ts.length * zs.length
 | [] => by simp [ofKs]
 | t :: ts => by
  have h1 := ofK_len zs t; have h2 := ofKs_len zs ts; rw [ofKs, List.length_append, List.length_cons, Nat.add_mul]; omega
theorem ofKs_fn : ∀ ts : List Tr, ofKs [5] ts = ts.filter isFnT
 | [] => rfl
 | t :: ts => by
  rw [ofKs, ofKs_fn ts, List.filter_cons]; unfold ofK isFnT; simp only [List.filter_cons, List.filter_nil]
  split <;> simp
theorem ofKs_let : ∀ ts : List Tr, ofKs [3, 4] ts = ts.filter isLetT
 | [] => rfl
 | t :: ts => by
  rw [ofKs, ofKs_let ts, List.filter_cons]; unfold ofK isLetT; simp only [List.filter_cons, List.filter_nil]
  by_cases h3 : t.kd = 3
  ·
   simp [h3]
  ·
   by_cases h4 : t.kd = 4
   ·
    simp [h4]
   ·
    simp [h3, h4]
theorem kinds_any (zs : List Int) (hz : zs.length ≤ 2) (g0 : Nat) (t : Tr) (p : Nat) (w0 w : World) (h : NTr w0 t p) (hb0 : Below w0.heap.size w0 w) (hl : t.kids.length ≤ 20000) (hzr : ∀ i, (hi : i < zs.length) → w.cell? ⟨g0, i, none⟩ = some (.int .i64 zs[i])) :
  Calls Tryz.prog 70 #[nPtr p, .slice (some ⟨g0, 0, none⟩) zs.length zs.length] w fun e w' => (∃ u, e = .returned u ∧ NRow0 w0 w.heap.size w' u (ofKs zs t.kids)) ∧ Below w.heap.size w w' := by
 obtain ⟨i0, hi0, hz0, hz1, hz2⟩ := info_parts info22
 obtain ⟨hpl0, y0, y1, u, c30, hr⟩ := h.cells
 have c3 := keepR hb0 c30
 have hpl := cellR c3
 have HB0 := hide hb0
 obtain ⟨va, vc, rfl⟩ := hr.form
 have HR := hide hr
 have HZ := hide hzr
 clear h hr hzr y0 y1 hb0 hpl0 c30
 generalize hts : t.kids = ts at HR hl c3
 clear hts t
 go_enter Tryz.func70, Tryz.ntmps70
 go_wp2_with fail
 go_loopw [5, 17] (fun o j wr => ∃ (k : Nat) (qs : List Nat), k ≤ ts.length ∧ j = .int .i64 k ∧ wr.ownsRow w.heap.size 22 1 o qs.length (qs.map nPtr) ∧ NAts (fun _ => True) w0 (ofKs zs (ts.take k)) qs ∧ Below w.heap.size w wr) (fun _ j _ => ts.length - (intOf j).toNat)
 case atStart => exact ⟨0, [], Nat.zero_le _, rfl, ⟨rfl, Or.inl ⟨rfl, rfl⟩⟩, NAts.nil, Below.refl _ _⟩
 case round =>
  obtain ⟨k, qs, hk, rfl, hown, hns, hbel⟩ := hrel; have HO := hide hown; have HNS := hide hns; have HB := hide hbel; obtain ⟨oa, oc, rfl⟩ := row_shut hown; have hql : qs.length ≤ 40000 := by
   rw [NAts.length _ _ hns]; have h1 := ofKs_len zs (ts.take k); rw [List.length_take, Nat.min_eq_left hk] at h1; have h2 : k * zs.length ≤ k * 2 := Nat.mul_le_mul_left k hz; omega
  clear hown hbel hns c3
  by_cases hlt : k < ts.length
  ·
   obtain ⟨g, cap, q, hv, hg, hc0, hn0⟩ := HR.out.cell k hlt; simp only [Value.slice.injEq] at hv; obtain ⟨rfl, _, rfl⟩ := hv
   have hc : wr.cell? ⟨g, k, none⟩ = some (nPtr q) := keepR (HB0.out.trans (HB.out.mono HB0.out.size)) hc0; have hki : (k : Int) < (ts.length : Int) := by omega
   have hgr : g < wr.heap.size := cellR hc; have HN := hide hn0; have HTK := hide (ofKs_take zs ts k hlt); have HLN : Hid ((ofK zs ts[k]).length ≤ 2) := Nat.le_trans (ofK_len _ _) hz; clear hn0 hc0; go_wp2_with fail
   go_loopw [5, 23] (fun o j wr2 => ∃ (i : Nat) (rs : List Nat), i ≤ zs.length ∧ j = .int .i64 i ∧ rs.length ≤ qs.length + i ∧ wr2.ownsRow w.heap.size 22 1 o rs.length (rs.map nPtr) ∧ NAts (fun _ => True) w0 (ofKs zs (ts.take k) ++ ofK (zs.take i) ts[k]) rs ∧ Below w.heap.size w wr2) (fun _ j _ => zs.length - (intOf j).toNat)
   case atStart => exact ⟨0, qs, Nat.zero_le _, rfl, by omega, HO.out, by simpa [ofK] using HNS.out, HB.out⟩
   case round =>
    obtain ⟨i, rs, hi, rfl, hrl, hown, hns, hbel⟩ := hrel; have HO2 := hide hown; have HNS2 := hide hns; have HB2 := hide hbel; obtain ⟨ob, od, rfl⟩ := row_shut hown; clear hown hbel hns
    by_cases hli : i < zs.length
    ·
     have hzi := HZ.out i hli; have HTI := hide (ofK_take zs ts[k] i hli); obtain ⟨z, hzz⟩ : ∃ z, z = zs[i] := ⟨_, rfl⟩; rw [← hzz] at hzi HTI; have hzc := keepR HB2.out hzi
     have hii : (i : Int) < (zs.length : Int) := by omega
     have hgz := cellR hzc; obtain ⟨hql2, k0, _, _⟩ := (HN.out.later (HB0.out.trans (HB2.out.mono HB0.out.size))).cells; obtain ⟨kd, hkd⟩ : ∃ kd, kd = (ts[k]).kd := ⟨_, rfl⟩; rw [← hkd] at k0 HTI
     have HOL := hide (own_lt HO2.out); have hsz2 := HB2.out.size; clear hzi hzz hkd
     cases hh : (kd == z) with
     | true =>
      rw [hh] at HTI
      go_wp2_with (at_builtin; refine wpList_append_lies _ rfl _ _ 36 rfl w.heap.size 22 i0 (.pointer none) 1 8 Tryz.underlying36 hi0 hz0 hz1 hz2 rfl (by decide) _ _ _ rfl (HO2.out.alloc _) ⟨wr.heap.size, 0, none⟩ 1 1 [nPtr q] rfl rfl (one_cellsP wr q _ rfl) (one_oneP q) (by decide) (by unfold maxLen; omega) (by omega) (by simp; omega) (wr.heap.size + 1) (by simp) ?_)
      intro g' cap' w3 hown' hgrow hg' _; have HB3 := hide (HB2.out.trans (((Below.refl w.heap.size wr).alloc hsz2 (.cells #[nPtr q] 22)).grown hgrow (by simp; omega) (fun b hb => (unhide HOL b hb).2)))
      have HO3 := hide hown'; clear hown' hgrow hg'; go_wp2_with fail
      go_roundw
      case rel =>
       refine ⟨i + 1, rs ++ [q], by omega, by go_num, by simp; omega, ?_, ?_, HB3.out⟩
       ·
        rw [List.length_append, List.map_append]; exact unhide HO3
       ·
        rw [HTI.out, ← List.append_assoc]; exact NAts.append (NAts.cons HN.out NAts.nil) _ _ HNS2.out
      case measure => simp [intOf]; omega
     | false =>
      rw [hh] at HTI; go_wp2_with fail
      go_roundw
      case rel =>
       refine ⟨i + 1, rs, by omega, by go_num, by omega, HO2.out, ?_, HB2.out⟩; rw [HTI.out]; simp only [Bool.false_eq_true, if_false, List.append_nil]; exact unhide HNS2
      case measure => simp [intOf]; omega
    ·
     have hii : i = zs.length := by omega
     subst hii; go_wp2_with fail
     go_roundw
     case rel =>
      refine ⟨k + 1, rs, by omega, by go_num, HO2.out, ?_, HB2.out⟩; have h := unhide HNS2; rw [List.take_length] at h; rw [HTK.out]; exact h
     case measure => simp [intOf]; omega
  ·
   have hkk : k = ts.length := by omega
   subst hkk; go_wp2_with fail; go_ret; have h := unhide HNS; rw [List.take_length] at h; exact ⟨⟨_, rfl, qs, HO.out, h⟩, HB.out⟩
theorem cells_int1 (w : World) (a : Int) : ∀ i, (hi : i < [a].length) → (w.alloc (.cells #[.int .i64 a] 3)).cell? ⟨w.heap.size, i, none⟩ = some (.int .i64 [a][i]) := fun i hi => by
 rw [cell_of (heap_new _ _)]
 match i, hi with
 | 0, _ => rfl
theorem cells_int2 (w : World) (a b : Int) : ∀ i, (hi : i < [a, b].length) → (w.alloc (.cells #[.int .i64 a, .int .i64 b] 3)).cell? ⟨w.heap.size, i, none⟩ = some (.int .i64 [a, b][i]) := fun i hi => by
 rw [cell_of (heap_new _ _)]
 match i, hi with
 | 0, _ => rfl
 | 1, _ => rfl
section
variable (t : Tr) (p : Nat) (w0 w : World) (h : NTr w0 t p) (hw : Below w0.heap.size w0 w) (hl : t.kids.length ≤ 20000)
include t p w0 w h hw hl
theorem rfuncs_any :
  Calls Tryz.prog 32 #[nPtr p] w fun e w' => (∃ u, e = .returned u ∧ NRow0 w0 w.heap.size w' u (fnsT t)) ∧ Below w.heap.size w w' := by
 have hb0 : Below w.heap.size w (w.alloc (.cells #[.int .i64 5] 3)) := (Below.refl _ _).alloc (Nat.le_refl _) _
 have HC := hide (kinds_any [5] (by decide) w.heap.size t p w0 (w.alloc (.cells #[.int .i64 5] 3)) h (hw.trans (hb0.mono hw.size)) hl (cells_int1 w 5))
 rw [ofKs_fn] at HC
 have HB := hide hb0
 clear h hb0 hw
 unfold fnsT
 go_enter Tryz.func32, Tryz.ntmps32
 exact zbdr
theorem rlets_any :
  Calls Tryz.prog 34 #[nPtr p] w fun e w' => (∃ u, e = .returned u ∧ NRow0 w0 w.heap.size w' u (letsT t)) ∧ Below w.heap.size w w' := by
 have hb0 : Below w.heap.size w (w.alloc (.cells #[.int .i64 3, .int .i64 4] 3)) := (Below.refl _ _).alloc (Nat.le_refl _) _
 have HC := hide (kinds_any [3, 4] (by decide) w.heap.size t p w0 (w.alloc (.cells #[.int .i64 3, .int .i64 4] 3)) h (hw.trans (hb0.mono hw.size)) hl (cells_int2 w 3 4))
 rw [ofKs_let] at HC
 have HB := hide hb0
 clear h hb0 hw
 unfold letsT
 go_enter Tryz.func34, Tryz.ntmps34
 exact zbdr
end
theorem ptr_ones (ps : List Nat) : ∀ u ∈ ps.map nPtr, u.oneCell' = true := by
 intro u hu
 obtain ⟨p, _, rfl⟩ := List.mem_map.1 hu
 rfl
theorem rnames_any (t : Tr) (p : Nat) (body : Bool) (w : World) (h : NTr w t p) (hc : t.count ≤ 20000) :
  Calls Tryz.prog 36 #[nPtr p, .bool body] w fun e w' => (∃ u, e = .returned u ∧ SRow w.heap.size w' u (namesT t body)) ∧ Below w.heap.size w w' := by
 obtain ⟨i0, hi0, hz0, hz1, hz2⟩ := info_parts info22
 have htc : t.count = 1 + Tr.counts t.kids := by cases t with | mk kd tx nn ks => exact count_mk _ _ _ _
 have hkl : t.kids.length ≤ 20000 := by have := counts_len t.kids; omega
 have hfl := fns_len t
 have hll := lets_len t
 have hvl := vars_len t
 have HN0 := hide h
 obtain ⟨V, hV⟩ : ∃ V, V = if body then varsT t else [] := ⟨_, rfl⟩
 have hVl : V.length ≤ 20000 := by
  rw [hV]
  split
  ·
   omega
  ·
   simp
 have hnm : namesT t body = (((fnsT t) ++ (letsT t)).map Tr.tx).foldl addB V := by
  unfold namesT; rw [← hV, List.append_assoc, onceL, List.foldl_append, List.map_append]; have h1 : V.foldl addB [] = V := by
   rw [hV]
   split
   ·
    exact once_once _
   ·
    rfl
  rw [h1]
 rw [hnm]
 have HV := hide hV
 have HC0 := hide (rvars_any t p w h hc)
 clear h hnm htc hvl hc hV
 obtain ⟨NL, hNL⟩ : ∃ NL, NL = fnsT t ++ letsT t := ⟨_, rfl⟩
 rw [← hNL]
 have hnl : NL.length ≤ 40000 := by rw [hNL, List.length_append]; omega
 have HNL := hide hNL
 clear hNL
 cases body with
 | true =>
  have hV2 : V = varsT t := unhide HV; rw [← hV2] at HC0; clear hV2 HV; go_enter Tryz.func36, Tryz.ntmps36; go_wp2_with fail; refine cm HC0.out ?_; rintro e W1 ⟨⟨u1, rfl, hr1⟩, hb1⟩; obtain ⟨A1, C1, rfl⟩ := srow_form hr1
  have HV1 := hide hr1; have HB1 := hide hb1; clear HC0 hr1 hb1; have HC := hide (rfuncs_any t p w W1 HN0.out HB1.out hkl); go_wp2_with fail; refine cm HC.out ?_; rintro e w2 ⟨⟨u2, rfl, hr2⟩, hb2⟩
  have HB2 := hide (HB1.out.trans (hb2.mono HB1.out.size)); have HV2 := hide (SRow.later HV1.out hb2); have HF2 := hide hr2; have HS2 := hide hb2.size; obtain ⟨a2, c2, rfl⟩ := hr2.form
  have HC2 := hide (rlets_any t p w w2 HN0.out HB2.out hkl); clear HC hr2 hb2; go_wp2_with fail; refine cm HC2.out ?_; rintro e w3 ⟨⟨u3, rfl, hr3⟩, hb3⟩; have HB3 := hide (HB2.out.trans (hb3.mono HB2.out.size))
  have HV3 := hide (SRow.later HV2.out hb3); have HS3 := hide (Nat.le_trans HS2.out hb3.size); obtain ⟨a3, c3, rfl⟩ := hr3.form; obtain ⟨ps, hf1, hf2⟩ := HF2.out.later hb3; obtain ⟨qs, hg1, hg2⟩ := hr3
  have hpl := NAts.length _ _ hf2; have hql := NAts.length _ _ hg2; rw [hpl] at hf1; rw [hql] at hg1; have HF3 := hide hf1; have HG3 := hide hg1; have HNS := hide (NAts.append hg2 _ _ hf2)
  have HPQ : Hid (ps.length = (fnsT t).length ∧ qs.length = (letsT t).length) := ⟨hpl, hql⟩; clear HC2 hb3 hf1 hf2 hg1 hg2 hpl hql HF2
  go_wp2_with (at_builtin; refine wpList_app_row rfl _ _ 36 rfl W1.heap.size _ 22 i0 (.pointer none) 8 Tryz.underlying36 hi0 hz0 hz1 hz2 rfl _ _ _ rfl HF3.out _ _ _ rfl HG3.out (ptr_ones qs) (by unfold maxLen; omega) (by omega) HS3.out ?_)
  intro v4 w4 hown4 hgr4; have hob := fun k hk => (own_lt HF3.out k hk).2; have HB4 := hide (HB3.out.grown hgr4 HB3.out.size (fun k hk => Nat.le_trans HB1.out.size (hob k hk))); have HRW : Hid (NRow0 w 0 w4 v4 NL) := by
   have h1 : NRow0 w W1.heap.size w4 v4 (fnsT t ++ letsT t) := by
    refine ⟨ps ++ qs, ?_, HNS.out⟩; rw [List.length_append, List.map_append, HPQ.out.1, HPQ.out.2]; exact hown4
   rw [HNL.out]; exact h1.low (Nat.zero_le _)
  have HV4 : Hid (SRow w.heap.size w4 (.slice A1 V.length C1) V) := owns_stay (I := fun x => x < W1.heap.size) (fun x hx hl => hgr4.block x hl (fun e => absurd (hob x e.symm) (by have h1 : x < W1.heap.size := hx; omega))) (fun g hg => (own_lt HV1.out g hg).1) HV3.out
  obtain ⟨a4, c4, rfl⟩ := HRW.out.form; clear hown4 hgr4 hob HV3 HV2 HNS HPQ HF3 HG3 HS2 HS3; go_wp2_with fail
  go_loopw [5, 17] (fun o j wr => ∃ k : Nat, k ≤ NL.length ∧ j = .int .i64 k ∧ SRow w.heap.size wr o (((NL.take k).map Tr.tx).foldl addB V) ∧ Below w4.heap.size w4 wr) (fun _ j _ => NL.length - (intOf j).toNat)
  case atStart => exact ⟨0, Nat.zero_le _, rfl, HV4.out, Below.refl _ _⟩
  case round =>
   exact zbaz
 | false =>
  have HV1 : Hid (SRow w.heap.size w (.slice none V.length 0) V) := by
   have h1 : V = [] := unhide HV; rw [h1]; exact srow_nil _ _
  have hV0 : V.length = 0 := by
   have h1 : V = [] := unhide HV; rw [h1]; rfl
  have HB1 : Hid (Below w.heap.size w w) := Below.refl _ _; clear HC0 HV; go_enter Tryz.func36, Tryz.ntmps36; have HC := hide (rfuncs_any t p w w HN0.out HB1.out hkl); go_wp2_with fail; refine cm HC.out ?_
  rintro e w2 ⟨⟨u2, rfl, hr2⟩, hb2⟩; have HB2 := hide (HB1.out.trans (hb2.mono HB1.out.size)); have HV2 := hide (SRow.later HV1.out hb2); have HF2 := hide hr2; have HS2 := hide hb2.size; obtain ⟨a2, c2, rfl⟩ := hr2.form
  have HC2 := hide (rlets_any t p w w2 HN0.out HB2.out hkl); clear HC hr2 hb2; go_wp2_with fail; refine cm HC2.out ?_; rintro e w3 ⟨⟨u3, rfl, hr3⟩, hb3⟩; have HB3 := hide (HB2.out.trans (hb3.mono HB2.out.size))
  have HV3 := hide (SRow.later HV2.out hb3); have HS3 := hide (Nat.le_trans HS2.out hb3.size); obtain ⟨a3, c3, rfl⟩ := hr3.form; obtain ⟨ps, hf1, hf2⟩ := HF2.out.later hb3; obtain ⟨qs, hg1, hg2⟩ := hr3
  have hpl := NAts.length _ _ hf2; have hql := NAts.length _ _ hg2; rw [hpl] at hf1; rw [hql] at hg1; have HF3 := hide hf1; have HG3 := hide hg1; have HNS := hide (NAts.append hg2 _ _ hf2)
  have HPQ : Hid (ps.length = (fnsT t).length ∧ qs.length = (letsT t).length) := ⟨hpl, hql⟩; clear HC2 hb3 hf1 hf2 hg1 hg2 hpl hql HF2
  go_wp2_with (at_builtin; refine wpList_app_row rfl _ _ 36 rfl w.heap.size _ 22 i0 (.pointer none) 8 Tryz.underlying36 hi0 hz0 hz1 hz2 rfl _ _ _ rfl HF3.out _ _ _ rfl HG3.out (ptr_ones qs) (by unfold maxLen; omega) (by omega) HS3.out ?_)
  intro v4 w4 hown4 hgr4; have hob := fun k hk => (own_lt HF3.out k hk).2; have HB4 := hide (HB3.out.grown hgr4 HB3.out.size (fun k hk => Nat.le_trans HB1.out.size (hob k hk))); have HRW : Hid (NRow0 w 0 w4 v4 NL) := by
   have h1 : NRow0 w w.heap.size w4 v4 (fnsT t ++ letsT t) := by
    refine ⟨ps ++ qs, ?_, HNS.out⟩; rw [List.length_append, List.map_append, HPQ.out.1, HPQ.out.2]; exact hown4
   rw [HNL.out]; exact h1.low (Nat.zero_le _)
  have HV4 : Hid (SRow w.heap.size w4 (.slice none V.length 0) V) := owns_stay (I := fun x => x < w.heap.size) (fun x hx hl => hgr4.block x hl (fun e => absurd (hob x e.symm) (by have h1 : x < w.heap.size := hx; omega))) (fun g hg => (own_lt HV1.out g hg).1) HV3.out
  obtain ⟨a4, c4, rfl⟩ := HRW.out.form; clear hown4 hgr4 hob HV3 HV2 HNS HPQ HF3 HG3 HS2 HS3; go_wp2_with fail
  go_loopw [5, 17] (fun o j wr => ∃ k : Nat, k ≤ NL.length ∧ j = .int .i64 k ∧ SRow w.heap.size wr o (((NL.take k).map Tr.tx).foldl addB V) ∧ Below w4.heap.size w4 wr) (fun _ j _ => NL.length - (intOf j).toNat)
  case atStart => exact ⟨0, Nat.zero_le _, rfl, by have h := unhide HV4; rw [hV0] at h; exact h, Below.refl _ _⟩
  case round =>
   exact zbaz
theorem sameT_any {B C : Nat} (l : List ByteArray) (u v : Value) (w : World) (h1 : SRow B w u l) (h2 : SRow C w v l) (hl : l.length ≤ 90000) :
  Calls Tryz.prog 28 #[u, v] w fun e w' => e = .returned (.bool true) ∧ Below w.heap.size w w' := by
 obtain ⟨ua, uc, rfl⟩ := srow_form h1
 obtain ⟨va, vc, rfl⟩ := srow_form h2
 have HR1 := hide h1
 have HR2 := hide h2
 clear h1 h2
 go_enter Tryz.func28, Tryz.ntmps28
 go_wp2_with fail
 go_loopw [5] (fun j wr => ∃ k : Nat, k ≤ l.length ∧ j = .int .i64 k ∧ Below w.heap.size w wr) (fun j _ => l.length - (intOf j).toNat)
 case atStart => exact ⟨0, Nat.zero_le _, rfl, Below.refl _ _⟩
 case round =>
  obtain ⟨k, hk, rfl, hb⟩ := hrel; have HB := hide hb; clear hb
  by_cases hlt : k < l.length
  ·
   obtain ⟨g1, p1, hv, hg1, _, hc1⟩ := srow_cell (SRow.later HR1.out HB.out) k hlt; simp only [Value.slice.injEq] at hv; obtain ⟨rfl, _, rfl⟩ := hv
   obtain ⟨g2, p2, hv, hg2, _, hc2⟩ := srow_cell (SRow.later HR2.out HB.out) k hlt; simp only [Value.slice.injEq] at hv; obtain ⟨rfl, _, rfl⟩ := hv; have hki : (k : Int) < (l.length : Int) := by omega
   generalize l[k] = x at hc1 hc2
   go_wp2_with fail; refine wp_region_held (S := fun X => X = wr.drew) (by kernel_rfl) ?_; change wpAnyH _ _ _ _ _ _ _ _ (World.drew _); refine wh 0 (.slice (some ⟨g1, 0, none⟩) l.length uc) rfl ?_
   refine wh 1 (.int .i64 k) rfl ?_; refine wh 2 (.pointer (some ⟨g1, k, none⟩)) rfl ?_; refine wh 3 (.string x) rfl ?_ (hy := Or.inl ⟨by kernel_rfl, fun X hX => by cases hX; go_simp⟩)
   refine wh 4 (.slice (some ⟨g2, 0, none⟩) l.length vc) rfl ?_; refine wh 5 (.int .i64 k) rfl ?_; refine wh 6 (.pointer (some ⟨g2, k, none⟩)) rfl ?_
   refine wh 7 (.string x) rfl ?_ (hy := Or.inl ⟨by kernel_rfl, fun X hX => by cases hX; go_simp⟩)
   refine wh 8 (.bool false) rfl ?_; refine wpAnyH_done (by kernel_rfl) ?_ _; go_simp; go_wp2_with fail
   go_roundw
   case rel => exact ⟨k + 1, by omega, by go_num, HB.out.drew⟩
   case measure => simp [intOf]; omega
  ·
   have hkk : k = l.length := by omega
   subst hkk; go_wp2_with fail; go_ret; exact ⟨rfl, HB.out⟩
mutual
def allT : Tr → List Tr
 | .mk kd tx n ks => .mk kd tx n ks :: allTs ks
def allTs : List Tr → List Tr
 | [] => []
 | t :: ts => allT t ++ allTs ts
end
mutual
theorem allT_len : ∀ t : Tr, (allT t).length = t.count
 | .mk kd tx n ks => by rw [allT, List.length_cons, allTs_len ks, count_mk]; omega
theorem allTs_len : ∀ ts : List Tr, (allTs ts).length = Tr.counts ts
 | [] => by simp [allTs, counts_nil]
 | t :: ts => by rw [allTs, List.length_append, allT_len t, allTs_len ts, counts_cons]
end
mutual
theorem allT_le : ∀ (t s : Tr), s ∈ allT t → s.count ≤ t.count
 | .mk kd tx n ks, s, h => by
  rw [allT] at h
  rcases List.mem_cons.1 h with rfl | h
  ·
   exact Nat.le_refl _
  ·
   have := allTs_le ks s h; rw [count_mk]; omega
theorem allTs_le : ∀ (ts : List Tr) (s : Tr), s ∈ allTs ts → s.count ≤ Tr.counts ts
 | [], s, h => by rw [allTs] at h; cases h
 | t :: ts, s, h => by
  rw [allTs] at h; rw [counts_cons]
  rcases List.mem_append.1 h with h | h
  ·
   have := allT_le t s h; omega
  ·
   have := allTs_le ts s h; omega
end
theorem lookup_one (T E : TypeId) (m k : Nat) (l : List (ByteArray × Value)) (s : ByteArray) (z : Value) (W : World) (hT : Tryz.prog.underlying T = some (.map 9 E)) (hm : W.heap[m]? = some (.map (mapOf l) k)) (hz : (zeroValue E).run Tryz.prog W = .ok z W) :
  (Instr.lookup T (.map (some m)) (.string s) false).run Tryz.prog W = .ok (((l.find? (fun e => decide (s = e.1))).map (·.2)).getD z) W := by
 exact zbay
def setL (s : ByteArray) (v : Value) : List (ByteArray × Value) → List (ByteArray × Value)
 | [] => []
 | e :: l => if s = e.1 then (s, v) :: l else e :: setL s v l
theorem find_mod (s : ByteArray) (v : Value) : ∀ (l : List (ByteArray × Value)) (n i : Nat) (x : ByteArray × Value), l.find? (fun e => decide (s = e.1)) = some x →
  ∃ j y, Instr.findNow .string (.string s) ((l.zipIdx n).map mkE) i = some (some (i + j, y)) ∧ (((l.zipIdx n).map mkE).getD j ⟨.string s, v, 0⟩).key = .string s ∧ j < l.length ∧ ((l.zipIdx n).map mkE).modify j (fun e => { e with key := .string s, val := v }) = ((setL s v l).zipIdx n).map mkE
 | [], _, _, x, h => by cases h
 | e :: l, n, i, x, h => by
  simp only [List.zipIdx_cons, List.map_cons, Instr.findNow, mkE, Instr.sameNow, beq_bytes]
  by_cases hs : s = e.1
  ·
   rw [decide_eq_true hs]; refine ⟨0, e.2, rfl, by simp [hs], by simp, ?_⟩; simp only [setL, if_pos hs, List.zipIdx_cons, List.map_cons, mkE]; rfl
  ·
   rw [decide_eq_false hs]; rw [List.find?_cons, decide_eq_false hs] at h; obtain ⟨j, y, h1, h2, h3, h4⟩ := find_mod s v l (n + 1) (i + 1) x h; refine ⟨j + 1, y, ?_, ?_, by simp; omega, ?_⟩
   ·
    simp only; rw [h1, show i + 1 + j = i + (j + 1) by omega]
   ·
    simpa using h2
   ·
    simp only [setL, if_neg hs, List.zipIdx_cons, List.map_cons, List.modify_succ_cons, mkE]; rw [← h4]
theorem setL_len (s : ByteArray) (v : Value) : ∀ l : List (ByteArray × Value), (setL s v l).length = l.length
 | [] => rfl
 | e :: l => by
  rw [setL]
  split
  ·
   simp
  ·
   simp [setL_len s v l]
theorem find_setL (s x : ByteArray) (v : Value) : ∀ l : List (ByteArray × Value), (l.find? (fun e => decide (s = e.1))).isSome = true → ((setL s v l).find? (fun e => decide (x = e.1))).map (·.2) = if x = s then some v else (l.find? (fun e => decide (x = e.1))).map (·.2)
 | [], h => by cases h
 | e :: l, h => by
  rw [setL]
  by_cases hs : s = e.1
  ·
   rw [if_pos hs]; simp only [List.find?_cons]
   by_cases hx : x = s
   ·
    rw [decide_eq_true hx, if_pos hx]; rfl
   ·
    have hx2 : ¬ x = e.1 := fun e' => hx (e'.trans hs.symm); rw [decide_eq_false hx, if_neg hx, decide_eq_false hx2]
  ·
   rw [if_neg hs]; rw [List.find?_cons, decide_eq_false hs] at h; simp only [List.find?_cons]
   by_cases hx : x = e.1
   ·
    have hx2 : ¬ x = s := fun e' => hs (e'.symm.trans hx); rw [decide_eq_true hx, if_neg hx2]
   ·
    rw [decide_eq_false hx]; exact find_setL s x v l h
theorem update_old (T E : TypeId) (m k : Nat) (l : List (ByteArray × Value)) (s : ByteArray) (v : Value) (W : World) (hT : Tryz.prog.underlying T = some (.map 9 E)) (hm : W.heap[m]? = some (.map (mapOf l) k)) (x : ByteArray × Value) (hn : l.find? (fun e => decide (s = e.1)) = some x) :
  (Instr.mapUpdate T (.map (some m)) (.string s) v).run Tryz.prog W = .ok () (setMap W m (.map (mapOf (setL s v l)) k)) := by
 obtain ⟨j, y, h1, hkey, hj, h4⟩ := find_mod s v l 0 0 x hn
 have h9 := Tryz.underlying9
 have h3 : (Instr.findKey 9 (.string s) (mapOf l).toList).run Tryz.prog W = .ok (some (j, y)) W := by
  unfold Instr.findKey; rw [Sem.run_bind, run_underlying h9 W]; simp only [Result.andThen_ok, mapOf]; rw [h1, Nat.zero_add]; rfl
 have hck : ∀ b, (Instr.checkKey b 10000 9 (.string s)).run Tryz.prog W = .ok () W := by
  exact zcci
 have hg : (getObj m).run Tryz.prog W = .ok (.map (mapOf l) k) W := by simp [getObj, Sem.run, hm]
 have hlen : j < (mapOf l).size := by simp [mapOf]; exact hj
 have hk : ((((mapOf l)[j]?).map (·.key)).getD (.string s)) = .string s := by
  have h5 : (mapOf l)[j]? = some ((mapOf l)[j]) := Array.getElem?_eq_getElem hlen; rw [h5]; simp only [Option.map_some, Option.getD_some]; have h6 : ((l.zipIdx 0).map mkE).getD j ⟨.string s, v, 0⟩ = (mapOf l)[j] := by
   simp [mapOf, List.getD, hj]
  rw [← h6]; exact hkey
 have hst : (Instr.keyThatStays (.string s) (.string s)).run Tryz.prog W = .ok (.string s) W := by
  unfold Instr.keyThatStays; have : Instr.sameBits 10000 (.string s) (.string s) = true := by
   show (s == s) = true
   rw [beq_bytes]; exact decide_eq_true rfl
  rw [if_pos this]; rfl
 unfold Instr.mapUpdate
 rw [Sem.run_bind, run_underlying hT W]
 simp only [Result.andThen_ok, Sem.run_bind, hg, hck, h3, hk, hst]
 have h7 : (mapOf l).modify j (fun e => { e with key := .string s, val := v }) = mapOf (setL s v l) := by
  unfold mapOf; rw [← h4]; simp
 rw [h7]
 simp [setObj, Sem.run, hm, setMap]
def CMap (m : Nat) (c : ByteArray → Int) (W : World) : Prop := ∃ l : List (ByteArray × Value), W.heap[m]? = some (.map (mapOf l) l.length) ∧ l.length ≤ 60000 ∧ ∀ s, ((l.find? (fun e => decide (s = e.1))).map (·.2)).getD (.int .i64 0) = .int .i64 (c s)
theorem CMap.look {m : Nat} {c : ByteArray → Int} {W : World} (h : CMap m c W) (T : TypeId) (hT : Tryz.prog.underlying T = some (.map 9 3)) (s : ByteArray) : (Instr.lookup T (.map (some m)) (.string s) false).run Tryz.prog W = .ok (.int .i64 (c s)) W := by
 obtain ⟨l, h1, _, h2⟩ := h
 rw [lookup_one T 3 m l.length l s (.int .i64 0) W hT h1 (by kernel_rfl), h2]
def NMap (m : Nat) (c : ByteArray → Int) (W : World) : Prop := ∃ l : List (ByteArray × Value), W.heap[m]? = some (.map (mapOf l) l.length) ∧ ∀ s, ((l.find? (fun e => decide (s = e.1))).map (·.2)).getD (.int .i64 0) = .int .i64 (c s)
section
variable {m : Nat} {c : ByteArray → Int}
include m c
theorem NMap.look {W : World} (h : NMap m c W) (s : ByteArray) : (Instr.lookup 98 (.map (some m)) (.string s) false).run Tryz.prog W = .ok (.int .i64 (c s)) W := by
 obtain ⟨l, h1, h2⟩ := h
 rw [lookup_one 98 3 m l.length l s (.int .i64 0) W Tryz.underlying98 h1 (by kernel_rfl), h2]
theorem NMap.lt {W : World} (h : NMap m c W) : m < W.heap.size := by
 obtain ⟨l, h1, _⟩ := h
 exact lt_of_heap h1
theorem NMap.later {W X : World} (h : NMap m c W) (hb : X.heap[m]? = W.heap[m]?) : NMap m c X := by
 obtain ⟨l, h1, h2⟩ := h
 exact ⟨l, hb.trans h1, h2⟩
end
def updC (c : ByteArray → Int) (s : ByteArray) (v : Int) : ByteArray → Int := fun x => if x = s then v else c x
theorem NMap.put {m : Nat} {c : ByteArray → Int} {W : World} (h : NMap m c W) (s : ByteArray) (v : Int) : ∃ W2, (Instr.mapUpdate 98 (.map (some m)) (.string s) (.int .i64 v)).run Tryz.prog W = .ok () W2 ∧ NMap m (updC c s v) W2 ∧ W2.heap.size = W.heap.size ∧ (∀ k, k ≠ m → W2.heap[k]? = W.heap[k]?) ∧ W2.os = W.os ∧ W2.tape = W.tape ∧ W2.output = W.output := by
 have hlt := h.lt
 obtain ⟨l, h1, h2⟩ := h
 cases hf : l.find? (fun e => decide (s = e.1)) with
 | none =>
  refine ⟨_, update_new 98 3 m l s (.int .i64 v) W Tryz.underlying98 h1 hf, ⟨l ++ [(s, .int .i64 v)], by rw [setMap_at hlt]; simp, fun x => ?_⟩, setMap_size _ _ _, fun k hk => setMap_other hk, rfl, rfl, rfl⟩
  rw [List.find?_append]; unfold updC
  by_cases hx : x = s
  ·
   subst hx; rw [hf, if_pos rfl]; simp
  ·
   rw [if_neg hx, ← h2 x]
   cases hfx : l.find? (fun e => decide (x = e.1)) with
   | some y => rfl
   | none => simp [hx]
 | some y =>
  refine ⟨_, update_old 98 3 m l.length l s (.int .i64 v) W Tryz.underlying98 h1 y hf, ⟨setL s (.int .i64 v) l, by rw [setMap_at hlt, setL_len], fun x => ?_⟩, setMap_size _ _ _, fun k hk => setMap_other hk, rfl, rfl, rfl⟩
  rw [find_setL s x _ l (by rw [hf]; rfl)]
  unfold updC
  by_cases hx : x = s
  ·
   rw [if_pos hx, if_pos hx]; rfl
  ·
   rw [if_neg hx, if_neg hx]; exact h2 x
def occ (ns : List ByteArray) (x : ByteArray) : Int := ((ns.filter fun y => decide (x = y)).length : Int)
def addC (c : ByteArray → Int) (ns : List ByteArray) (b : Int) : ByteArray → Int := fun x => c x + b * occ ns x
section
variable (ns : List ByteArray)
include ns
theorem occ_snoc (y x : ByteArray) : occ (ns ++ [y]) x = occ ns x + if x = y then 1 else 0 := by
 unfold occ
 rw [List.filter_append, List.length_append]
 by_cases h : x = y
 all_goals
  simp [h]
theorem occ_le (x : ByteArray) : 0 ≤ occ ns x ∧ occ ns x ≤ ns.length := by
 unfold occ
 have := List.length_filter_le (fun y => decide (x = y)) ns
 omega
theorem occ_pos (x : ByteArray) : 0 < occ ns x ↔ x ∈ ns := by
 unfold occ
 constructor
 ·
  intro h; have h1 : 0 < (ns.filter fun y => decide (x = y)).length := by omega
  obtain ⟨y, hy⟩ := List.exists_mem_of_length_pos h1; have h2 := List.mem_filter.1 hy; have h3 : x = y := of_decide_eq_true h2.2; rw [h3]; exact h2.1
 ·
  intro h; have h1 : x ∈ ns.filter fun y => decide (x = y) := List.mem_filter.2 ⟨h, decide_eq_true rfl⟩; have := List.length_pos_of_mem h1; omega
end
section
variable (c : ByteArray → Int)
include c
theorem addC_snoc (ns : List ByteArray) (y : ByteArray) (b : Int) (hb : b = 1 ∨ b = -1) : addC c (ns ++ [y]) b = updC (addC c ns b) y (addC c ns b y + b) := by
 funext x
 unfold addC updC
 rw [occ_snoc]
 by_cases h : x = y
 ·
  subst h; simp
  rcases hb with rfl | rfl <;> omega
 ·
  simp [h]
theorem addC_back (ns : List ByteArray) : addC (addC c ns 1) ns (-1) = c := by
 funext x
 unfold addC
 omega
theorem addC_nil (b : Int) : addC c [] b = c := by
 funext x
 simp [addC, occ]
end
theorem wrap_small {a : Int} (h1 : -4000000000 ≤ a) (h2 : a ≤ 4000000000) : IntKind.i64.wrap a = a := by
 simp [IntKind.wrap, IntKind.bits, IntKind.signed]
 omega
theorem Ap.put {m B : Nat} {w W W2 : World} (h : Ap m B w W) (h1 : W2.heap.size = W.heap.size) (h2 : ∀ k, k ≠ m → W2.heap[k]? = W.heap[k]?) (h3 : W2.os = W.os) (h4 : W2.tape = W.tape) (h5 : W2.output = W.output) : Ap m B w W2 :=
 ⟨h3.trans h.os, h4.trans h.tape, h5.trans h.output, by rw [h1]; exact h.size, fun k hk hr => (h2 k hr).trans (h.block k hk hr)⟩
theorem count_any (m : Nat) (c : ByteArray → Int) (ns : List ByteArray) (b : Int) (hb : b = 1 ∨ b = -1) (v : Value) (w : World) {B : Nat} (hM : NMap m c w) (h : SRow B w v ns) (hn : v.ownBlock ≠ some m) (hl : ns.length ≤ 100000) (hc : ∀ x, -1000000000 ≤ c x ∧ c x ≤ 1000000000) :
  Calls Tryz.prog 75 #[.map (some m), v, .int .i64 b] w fun e w' => e = .returned (.tuple #[]) ∧ NMap m (addC c ns b) w' ∧ Ap m w.heap.size w w' ∧ w'.heap.size = w.heap.size := by
 obtain ⟨va, vc, rfl⟩ := srow_form h
 have HR := hide h
 have HM := hide hM
 have HN := hide hn
 have HCC := hide hc
 have HBB := hide hb
 clear h hM hn hc hb
 go_enter Tryz.func75, Tryz.ntmps75
 go_wp2_with fail
 go_loopw [10] (fun j wr => ∃ k : Nat, k ≤ ns.length ∧ j = .int .i64 k ∧ NMap m (addC c (ns.take k) b) wr ∧ Ap m w.heap.size w wr ∧ wr.heap.size = w.heap.size) (fun j _ => ns.length - (intOf j).toNat)
 case atStart => exact ⟨0, Nat.zero_le _, rfl, by rw [List.take_zero, addC_nil]; exact HM.out, Ap.refl _ _ _, rfl⟩
 case round =>
  obtain ⟨k, hk, rfl, hmk, hap, hsz⟩ := hrel; have HMK := hide hmk; have HAP := hide hap; have HSZ := hide hsz; clear hmk hap hsz
  by_cases hlt : k < ns.length
  ·
   obtain ⟨g, cap, hv, hg, _, hc0⟩ := srow_cell HR.out k hlt; simp only [Value.slice.injEq] at hv; obtain ⟨rfl, _, rfl⟩ := hv; have hgm : g ≠ m := fun e => unhide HN (by rw [e]; rfl)
   have hcc : wr.cell? ⟨g, k, none⟩ = some (.string ns[k]) := by rw [HAP.out.cell (p := ⟨g, k, none⟩) hg hgm]; exact hc0
   have hgr := cellR hcc; have hki : (k : Int) < (ns.length : Int) := by omega
   have HTK : Hid (addC c (ns.take (k + 1)) b = updC (addC c (ns.take k) b) ns[k] (addC c (ns.take k) b ns[k] + b)) := by
    show _ = _
    rw [List.take_succ_eq_append_getElem hlt]; exact addC_snoc _ _ _ _ HBB.out
   have hlk := HMK.out.look ns[k]; have hw : IntKind.i64.wrap (addC c (ns.take k) b ns[k] + b) = addC c (ns.take k) b ns[k] + b := by
    have h1 := unhide HCC ns[k]; have h2 := occ_le (ns.take k) ns[k]; rw [List.length_take] at h2; refine wrap_small ?_ ?_ <;> unfold addC <;> rcases unhide HBB with hb1 | hb1 <;> rw [hb1] <;> omega
   obtain ⟨W2, hup, hm2, hs2, ho2, o1, o2, o3⟩ := HMK.out.put ns[k] (addC c (ns.take k) b ns[k] + b); rw [← HTK.out] at hm2; have HM2 := hide hm2; have HA2 := hide (HAP.out.put hs2 ho2 o1 o2 o3)
   have HS2 := hide (hs2.trans HSZ.out)
   generalize addC c (ns.take k) b ns[k] = z at hlk hup hw
   generalize ns[k] = x at hcc hlk hup
   clear hm2 hs2 ho2 o1 o2 o3 hc0; go_wp2_with fail
   go_roundw
   case rel => exact ⟨k + 1, by omega, by go_num, HM2.out, HA2.out, HS2.out⟩
   case measure => simp [intOf]; omega
  ·
   have hkk : k = ns.length := by omega
   subst hkk; go_wp2_with fail
   go_end0
   have h := unhide HMK; rw [List.take_length] at h; exact ⟨rfl, h, HAP.out, HSZ.out⟩
end Go.Proofs.YtodmgaikhbmlnaaGreatDoor
