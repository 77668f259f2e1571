/-
  The document's Vars.
-/
import Derived.Test.YtodmgaikhbmlnaaGreatDoorEc25
set_option maxRecDepth 100000
set_option maxHeartbeats 16000000
namespace Go.Proofs.YtodmgaikhbmlnaaGreatDoor
open Go.RowKit
def RvAt (m : Nat) : Prop := ∀ (t : Tr), t.count ≤ m → t.count ≤ 20000 → ∀ (p : Nat) (w : World), NTr w t p →
  Calls Tryz.prog 30 #[nPtr p] w fun e w' => (∃ u, e = .returned u ∧ SRow w.heap.size w' u (varsT t)) ∧ Below w.heap.size w w'
theorem fold_len : ∀ (l acc : List ByteArray), (l.foldl addB acc).length ≤ acc.length + l.length
 | [], acc => by simp
 | x :: l, acc => by
  have h := fold_len l (addB acc x); have h2 : (addB acc x).length ≤ acc.length + 1 := by unfold addB; split <;> simp
  simp only [List.foldl_cons, List.length_cons]; omega
theorem vars_step (t : Tr) (k : Nat) (hk : k < t.kids.length) : onceL (vws (t.kids.take (k + 1))) = (vw t.kids[k]).foldl addB (onceL (vws (t.kids.take k))) := by
 rw [vws_take t.kids k hk, onceL, List.foldl_append]; rfl
theorem rvars_step {m : Nat} (ih : RvAt m) : RvAt (m + 1) := by
 intro t ht hc p w h
 have htc : t.count = 1 + Tr.counts t.kids := by cases t with | mk kd tx nn ks => exact count_mk _ _ _ _
 obtain ⟨hpl, _, _, u, c3, hr⟩ := h.cells
 obtain ⟨ua, uc, rfl⟩ := hr.form
 have HR := hide hr
 have hkl : t.kids.length ≤ 20000 := by have := counts_len t.kids; omega
 have HIH : Hid (∀ (k : Nat) (hk : k < t.kids.length) (q : Nat) (W : World), NTr W t.kids[k] q → Calls Tryz.prog 30 #[nPtr q] W fun e w' => (∃ u, e = .returned u ∧ SRow W.heap.size w' u (varsT t.kids[k])) ∧ Below W.heap.size W w') := fun k hk q W hq => by
  have h1 := counts_le t.kids k hk; exact ih t.kids[k] (by omega) (by omega) q W hq
 have HLV : Hid (∀ k, (vws (t.kids.take k)).length ≤ 20000) := fun k => by
  have h1 := vws_len (t.kids.take k); have h2 : Tr.counts t.kids = Tr.counts (t.kids.take k) + Tr.counts (t.kids.drop k) := by rw [← counts_app, List.take_append_drop]
  omega
 have HLK : Hid (∀ k (hk : k < t.kids.length), (varsT t.kids[k]).length ≤ 20000) := fun k hk => by
  have h1 := counts_le t.kids k hk; have h2 := vars_len t.kids[k]; have h3 : (t.kids[k]).count = 1 + Tr.counts (t.kids[k]).kids := by cases t.kids[k] with | mk kd tx nn ks => exact count_mk _ _ _ _
  omega
 unfold varsT
 clear h hr htc ht hc ih
 go_enter Tryz.func30, Tryz.ntmps30
 go_wp2_with fail
 go_loopw [3, 15] (fun o j wr => ∃ k : Nat, k ≤ t.kids.length ∧ j = .int .i64 k ∧ SRow w.heap.size wr o (onceL (vws (t.kids.take k))) ∧ Below w.heap.size w wr) (fun _ j _ => t.kids.length - (intOf j).toNat)
 case atStart => exact ⟨0, Nat.zero_le _, rfl, by simpa [vws, onceL] using srow_nil _ _, Below.refl _ _⟩
 case round =>
  obtain ⟨k, hk, rfl, hown, hbel⟩ := hrel; have HOWN := hide hown; have HB := hide hbel; obtain ⟨oa, oc, rfl⟩ := srow_form hown; clear hown hbel c3
  by_cases hlt : k < t.kids.length
  ·
   obtain ⟨g, cap, q, hv, hg, hcc, hn⟩ := (HR.out.later HB.out).cell k hlt; simp only [Value.slice.injEq] at hv; obtain ⟨rfl, _, rfl⟩ := hv; have hki : (k : Int) < (t.kids.length : Int) := by omega
   obtain ⟨hql, q0, q1, _⟩ := hn.cells; have HN := hide hn; have HST := hide (vars_step t k hlt); have HVW := hide (vw_eq t.kids[k])
   have HF := hide (fun W (hW : Below wr.heap.size wr W) => risFunc_any t.kids[k] q W (hn.later hW)); have hol := once_len (vws (t.kids.take k)); have hvl := unhide HLV k; have hvk := unhide HLK k hlt
   have HI := hide (unhide HIH k hlt q); obtain ⟨L, hL⟩ : ∃ L, L = onceL (vws (t.kids.take k)) := ⟨_, rfl⟩; rw [← hL] at HOWN HST hol ⊢; have hLl : L.length ≤ 20000 := by omega
   have hsz := HB.out.size; have HAD := hide (fun s W (hW : Below wr.heap.size wr W) => radd_any L s (.slice oa L.length oc) W (SRow.later HOWN.out hW) (by omega) (Nat.le_trans hsz hW.size))
   generalize t.kids[k] = x at q0 q1 HN HST HVW HF hvk HI
   clear hn hL hol hvl
   cases hk2 : (x.kd == 2) with
   | true =>
    have HOV : Hid (ownVar x = [x.tx]) := by show _ = _; unfold ownVar; rw [hk2]; rfl
    have HC0 := hide (unhide HAD x.tx wr (Below.refl _ _))
    generalize x.tx = tx at q1 HC0 HOV
    generalize x.kd = kd at q0 hk2
    go_wp2_with fail; refine cm HC0.out ?_; rintro e W1 ⟨⟨u1, rfl, hr1⟩, hb1⟩; obtain ⟨L1, hL1⟩ : ∃ L1, L1 = addB L tx := ⟨_, rfl⟩; rw [← hL1] at hr1; obtain ⟨a1, c1, rfl⟩ := srow_form hr1; have HO1 := hide hr1
    have HW1 := hide hb1; have HB1 := hide (HB.out.trans (hb1.mono HB.out.size))
    have hL1l : L1.length ≤ 30000 := by rw [hL1]; have h2 := fold_len [tx] L; simp only [List.foldl_cons, List.foldl_nil, List.length_cons, List.length_nil] at h2; omega
    have HLL := hide hL1; clear HC0 hr1 hb1 hL1
    cases hf : isFunT x with
    | true =>
     rw [hf] at HF HVW; have HC := hide (unhide HF W1 HW1.out); go_wp2_with fail; refine cm HC.out ?_; rintro e w3 ⟨rfl, rfl⟩; clear HC; go_wp2_with fail
     go_roundw
     case rel =>
      refine ⟨k + 1, by omega, by go_num, ?_, HB1.out⟩; rw [HST.out, HVW.out, HOV.out]; simp only [if_true, List.append_nil, List.foldl_cons, List.foldl_nil]; rw [← HLL.out]; exact unhide HO1
     case measure => simp [intOf]; omega
    | false =>
     exact zbar
   | false =>
    have HOV : Hid (ownVar x = []) := by show _ = _; unfold ownVar; rw [hk2]; rfl
    obtain ⟨W1, hW1⟩ : ∃ W1, W1 = wr := ⟨_, rfl⟩; obtain ⟨L1, hL1⟩ : ∃ L1, L1 = L := ⟨_, rfl⟩; have HO1 : Hid (SRow w.heap.size W1 (.slice oa L1.length oc) L1) := by rw [hW1, hL1]; exact unhide HOWN
    have HW1 : Hid (Below wr.heap.size wr W1) := by rw [hW1]; exact Below.refl _ _
    have HB1 : Hid (Below w.heap.size w W1) := by rw [hW1]; exact unhide HB
    have hL1l : L1.length ≤ 30000 := by rw [hL1]; omega
    have HLL := hide hL1; subst hW1; rw [← hL1]
    generalize x.kd = kd at q0 hk2
    clear hL1
    cases hf : isFunT x with
    | true =>
     rw [hf] at HF HVW; have HC := hide (unhide HF W1 HW1.out); go_wp2_with fail; refine cm HC.out ?_; rintro e w3 ⟨rfl, rfl⟩; clear HC; go_wp2_with fail
     go_roundw
     case rel =>
      refine ⟨k + 1, by omega, by go_num, ?_, HB1.out⟩; rw [HST.out, HVW.out, HOV.out]; simp only [if_true, List.append_nil, List.foldl_nil]; rw [← HLL.out]; exact unhide HO1
     case measure => simp [intOf]; omega
    | false =>
     exact zbar
  ·
   have hkk : k = t.kids.length := by omega
   subst hkk; go_wp2_with fail; go_ret; have h := unhide HOWN; rw [List.take_length] at h; refine ⟨⟨_, rfl, ?_⟩, HB.out⟩; rw [List.take_length]; exact h
theorem rvars_all : ∀ m, RvAt m := by
 intro m
 induction m with
 | zero =>
  exact zbdt
 | succ m ih => exact rvars_step ih
theorem rvars_any (t : Tr) (p : Nat) (w : World) (h : NTr w t p) (hc : t.count ≤ 20000) :
  Calls Tryz.prog 30 #[nPtr p] w fun e w' => (∃ u, e = .returned u ∧ SRow w.heap.size w' u (varsT t)) ∧ Below w.heap.size w w' := rvars_all t.count t (Nat.le_refl _) hc p w h
theorem cellR {w : World} {b o : Nat} {v : Value} (h : w.cell? ⟨b, o, none⟩ = some v) : b < w.heap.size := by
 exact zbfv
theorem keepR {w X : World} {b o : Nat} {v : Value} (hb : Below w.heap.size w X) (h : w.cell? ⟨b, o, none⟩ = some v) : X.cell? ⟨b, o, none⟩ = some v :=
 (World.cell?_of_block (w := w) (a := ⟨b, o, none⟩) (hb.block b (cellR h))).trans h
def NRow0 (w0 : World) (B : Nat) (w : World) (v : Value) (ts : List Tr) : Prop := ∃ ps : List Nat, w.ownsRow B 22 1 v ps.length (ps.map nPtr) ∧ NAts (fun _ => True) w0 ts ps
theorem NRow0.row {w0 w : World} {B : Nat} {v : Value} {ts : List Tr} (h : NRow0 w0 B w v ts) (hb : Below w0.heap.size w0 w) : NRow B w v ts := by
 obtain ⟨ps, h1, h2⟩ := h
 exact ⟨ps, h1, NAts.later (Below.stay hb) _ _ h2⟩
theorem NRow0.low {w0 w : World} {B B' : Nat} {v : Value} {ts : List Tr} (h : NRow0 w0 B w v ts) (hB : B' ≤ B) : NRow0 w0 B' w v ts := by
 exact zbff
theorem NRow0.form {w0 w : World} {B : Nat} {v : Value} {ts : List Tr} (h : NRow0 w0 B w v ts) : ∃ a cap, v = .slice a ts.length cap := by
 obtain ⟨ps, h1, h2⟩ := h
 rw [← NAts.length _ _ h2]
 exact row_shut h1
theorem NRow0.later {w0 w w' : World} {B : Nat} {v : Value} {ts : List Tr} (h : NRow0 w0 B w v ts) (hb : Below w.heap.size w w') : NRow0 w0 B w' v ts := by
 obtain ⟨ps, h1, h2⟩ := h
 exact ⟨ps, owns_stay (I := fun _ => True) (Below.stay hb) (fun _ _ => trivial) h1, h2⟩
def ofK (zs : List Int) (k : Tr) : List Tr := (zs.filter fun z => k.kd == z).map fun _ => k
def ofKs (zs : List Int) : List Tr → List Tr
 | [] => []
 | k :: ks => ofK zs k ++ ofKs zs ks
theorem ofKs_app (zs : List Int) : ∀ a b : List Tr, ofKs zs (a ++ b) = ofKs zs a ++ ofKs zs b
 | [], b => rfl
 | t :: a, b => by simp [ofKs, ofKs_app zs a b]
theorem ofKs_take (zs : List Int) (ts : List Tr) (k : Nat) (hk : k < ts.length) : ofKs zs (ts.take (k + 1)) = ofKs zs (ts.take k) ++ ofK zs ts[k] := by
 rw [List.take_succ_eq_append_getElem hk, ofKs_app]
 simp [ofKs]
theorem ofK_take (zs : List Int) (k : Tr) (i : Nat) (hi : i < zs.length) : ofK (zs.take (i + 1)) k = ofK (zs.take i) k ++ (if k.kd == zs[i] then [k] else []) := by
 unfold ofK
 rw [List.take_succ_eq_append_getElem hi, List.filter_append, List.map_append]
 simp only [List.filter_cons, List.filter_nil]
 split <;> simp
theorem ofK_len (zs : List Int) (k : Tr) : (ofK zs k).length ≤ zs.length := by unfold ofK; rw [List.length_map]; exact List.length_filter_le _ _
theorem ofKs_len (zs : List Int) : ∀ ts : List Tr, (ofKs zs ts).length ≤ ts.length * zs.length
 | [] => by simp [ofKs]
 | t :: ts => by
  have h1 := ofK_len zs t; have h2 := ofKs_len zs ts; rw [ofKs, List.length_append, List.length_cons, Nat.add_mul]; omega
theorem ofKs_fn : ∀ ts : List Tr, ofKs [5] ts = ts.filter isFnT
 | [] => rfl
 | t :: ts => by
  rw [ofKs, ofKs_fn ts, List.filter_cons]; unfold ofK isFnT; simp only [List.filter_cons, List.filter_nil]
  split <;> simp
theorem ofKs_let : ∀ ts : List Tr, ofKs [3, 4] ts = ts.filter isLetT
 | [] => rfl
 | t :: ts => by
  rw [ofKs, ofKs_let ts, List.filter_cons]; unfold ofK isLetT; simp only [List.filter_cons, List.filter_nil]
  by_cases h3 : t.kd = 3
  ·
   simp [h3]
  ·
   by_cases h4 : t.kd = 4
   ·
    simp [h4]
   ·
    simp [h3, h4]
theorem kinds_any (zs : List Int) (hz : zs.length ≤ 2) (g0 : Nat) (t : Tr) (p : Nat) (w0 w : World) (h : NTr w0 t p) (hb0 : Below w0.heap.size w0 w) (hl : t.kids.length ≤ 20000) (hzr : ∀ i, (hi : i < zs.length) → w.cell? ⟨g0, i, none⟩ = some (.int .i64 zs[i])) :
  Calls Tryz.prog 70 #[nPtr p, .slice (some ⟨g0, 0, none⟩) zs.length zs.length] w fun e w' => (∃ u, e = .returned u ∧ NRow0 w0 w.heap.size w' u (ofKs zs t.kids)) ∧ Below w.heap.size w w' := by
 obtain ⟨i0, hi0, hz0, hz1, hz2⟩ := info_parts info22
 obtain ⟨hpl0, y0, y1, u, c30, hr⟩ := h.cells
 have c3 := keepR hb0 c30
 have hpl := cellR c3
 have HB0 := hide hb0
 obtain ⟨va, vc, rfl⟩ := hr.form
 have HR := hide hr
 have HZ := hide hzr
 clear h hr hzr y0 y1 hb0 hpl0 c30
 generalize hts : t.kids = ts at HR hl c3
 clear hts t
 go_enter Tryz.func70, Tryz.ntmps70
 go_wp2_with fail
 go_loopw [5, 17] (fun o j wr => ∃ (k : Nat) (qs : List Nat), k ≤ ts.length ∧ j = .int .i64 k ∧ wr.ownsRow w.heap.size 22 1 o qs.length (qs.map nPtr) ∧ NAts (fun _ => True) w0 (ofKs zs (ts.take k)) qs ∧ Below w.heap.size w wr) (fun _ j _ => ts.length - (intOf j).toNat)
 case atStart => exact ⟨0, [], Nat.zero_le _, rfl, ⟨rfl, Or.inl ⟨rfl, rfl⟩⟩, NAts.nil, Below.refl _ _⟩
 case round =>
  obtain ⟨k, qs, hk, rfl, hown, hns, hbel⟩ := hrel; have HO := hide hown; have HNS := hide hns; have HB := hide hbel; obtain ⟨oa, oc, rfl⟩ := row_shut hown; have hql : qs.length ≤ 40000 := by
   rw [NAts.length _ _ hns]; have h1 := ofKs_len zs (ts.take k); rw [List.length_take, Nat.min_eq_left hk] at h1; have h2 : k * zs.length ≤ k * 2 := Nat.mul_le_mul_left k hz; omega
  clear hown hbel hns c3
  by_cases hlt : k < ts.length
  ·
   obtain ⟨g, cap, q, hv, hg, hc0, hn0⟩ := HR.out.cell k hlt; simp only [Value.slice.injEq] at hv; obtain ⟨rfl, _, rfl⟩ := hv
   have hc : wr.cell? ⟨g, k, none⟩ = some (nPtr q) := keepR (HB0.out.trans (HB.out.mono HB0.out.size)) hc0; have hki : (k : Int) < (ts.length : Int) := by omega
   have hgr : g < wr.heap.size := cellR hc; have HN := hide hn0; have HTK := hide (ofKs_take zs ts k hlt); have HLN : Hid ((ofK zs ts[k]).length ≤ 2) := Nat.le_trans (ofK_len _ _) hz; clear hn0 hc0; go_wp2_with fail
   go_loopw [5, 23] (fun o j wr2 => ∃ (i : Nat) (rs : List Nat), i ≤ zs.length ∧ j = .int .i64 i ∧ rs.length ≤ qs.length + i ∧ wr2.ownsRow w.heap.size 22 1 o rs.length (rs.map nPtr) ∧ NAts (fun _ => True) w0 (ofKs zs (ts.take k) ++ ofK (zs.take i) ts[k]) rs ∧ Below w.heap.size w wr2) (fun _ j _ => zs.length - (intOf j).toNat)
   case atStart => exact ⟨0, qs, Nat.zero_le _, rfl, by omega, HO.out, by simpa [ofK] using HNS.out, HB.out⟩
   case round =>
    obtain ⟨i, rs, hi, rfl, hrl, hown, hns, hbel⟩ := hrel; have HO2 := hide hown; have HNS2 := hide hns; have HB2 := hide hbel; obtain ⟨ob, od, rfl⟩ := row_shut hown; clear hown hbel hns
    by_cases hli : i < zs.length
    ·
     have hzi := HZ.out i hli; have HTI := hide (ofK_take zs ts[k] i hli); obtain ⟨z, hzz⟩ : ∃ z, z = zs[i] := ⟨_, rfl⟩; rw [← hzz] at hzi HTI; have hzc := keepR HB2.out hzi
     have hii : (i : Int) < (zs.length : Int) := by omega
     have hgz := cellR hzc; obtain ⟨hql2, k0, _, _⟩ := (HN.out.later (HB0.out.trans (HB2.out.mono HB0.out.size))).cells; obtain ⟨kd, hkd⟩ : ∃ kd, kd = (ts[k]).kd := ⟨_, rfl⟩; rw [← hkd] at k0 HTI
     have HOL := hide (own_lt HO2.out); have hsz2 := HB2.out.size; clear hzi hzz hkd
     cases hh : (kd == z) with
     | true =>
      rw [hh] at HTI
      go_wp2_with (at_builtin; refine wpList_append_lies _ rfl _ _ 36 rfl w.heap.size 22 i0 (.pointer none) 1 8 Tryz.underlying36 hi0 hz0 hz1 hz2 rfl (by decide) _ _ _ rfl (HO2.out.alloc _) ⟨wr.heap.size, 0, none⟩ 1 1 [nPtr q] rfl rfl (one_cellsP wr q _ rfl) (one_oneP q) (by decide) (by unfold maxLen; omega) (by omega) (by simp; omega) (wr.heap.size + 1) (by simp) ?_)
      intro g' cap' w3 hown' hgrow hg' _; have HB3 := hide (HB2.out.trans (((Below.refl w.heap.size wr).alloc hsz2 (.cells #[nPtr q] 22)).grown hgrow (by simp; omega) (fun b hb => (unhide HOL b hb).2)))
      have HO3 := hide hown'; clear hown' hgrow hg'; go_wp2_with fail
      go_roundw
      case rel =>
       refine ⟨i + 1, rs ++ [q], by omega, by go_num, by simp; omega, ?_, ?_, HB3.out⟩
       ·
        rw [List.length_append, List.map_append]; exact unhide HO3
       ·
        rw [HTI.out, ← List.append_assoc]; exact NAts.append (NAts.cons HN.out NAts.nil) _ _ HNS2.out
      case measure => simp [intOf]; omega
     | false =>
      rw [hh] at HTI; go_wp2_with fail
      go_roundw
      case rel =>
       refine ⟨i + 1, rs, by omega, by go_num, by omega, HO2.out, ?_, HB2.out⟩; rw [HTI.out]; simp only [Bool.false_eq_true, if_false, List.append_nil]; exact unhide HNS2
      case measure => simp [intOf]; omega
    ·
     have hii : i = zs.length := by omega
     subst hii; go_wp2_with fail
     go_roundw
     case rel =>
      refine ⟨k + 1, rs, by omega, by go_num, HO2.out, ?_, HB2.out⟩; have h := unhide HNS2; rw [List.take_length] at h; rw [HTK.out]; exact h
     case measure => simp [intOf]; omega
  ·
   have hkk : k = ts.length := by omega
   subst hkk; go_wp2_with fail; go_ret; have h := unhide HNS; rw [List.take_length] at h; exact ⟨⟨_, rfl, qs, HO.out, h⟩, HB.out⟩
theorem cells_int1 (w : World) (a : Int) : ∀ i, (hi : i < [a].length) → (w.alloc (.cells #[.int .i64 a] 3)).cell? ⟨w.heap.size, i, none⟩ = some (.int .i64 [a][i]) := fun i hi => by
 rw [cell_of (heap_new _ _)]
 match i, hi with
 | 0, _ => rfl
theorem cells_int2 (w : World) (a b : Int) : ∀ i, (hi : i < [a, b].length) → (w.alloc (.cells #[.int .i64 a, .int .i64 b] 3)).cell? ⟨w.heap.size, i, none⟩ = some (.int .i64 [a, b][i]) := fun i hi => by
 rw [cell_of (heap_new _ _)]
 match i, hi with
 | 0, _ => rfl
 | 1, _ => rfl
section
variable (t : Tr) (p : Nat) (w0 w : World) (h : NTr w0 t p) (hw : Below w0.heap.size w0 w) (hl : t.kids.length ≤ 20000)
include t p w0 w h hw hl
theorem rfuncs_any :
  Calls Tryz.prog 32 #[nPtr p] w fun e w' => (∃ u, e = .returned u ∧ NRow0 w0 w.heap.size w' u (fnsT t)) ∧ Below w.heap.size w w' := by
 have hb0 : Below w.heap.size w (w.alloc (.cells #[.int .i64 5] 3)) := (Below.refl _ _).alloc (Nat.le_refl _) _
 have HC := hide (kinds_any [5] (by decide) w.heap.size t p w0 (w.alloc (.cells #[.int .i64 5] 3)) h (hw.trans (hb0.mono hw.size)) hl (cells_int1 w 5))
 rw [ofKs_fn] at HC
 have HB := hide hb0
 clear h hb0 hw
 unfold fnsT
 go_enter Tryz.func32, Tryz.ntmps32
 exact zbdz
theorem rlets_any :
  Calls Tryz.prog 34 #[nPtr p] w fun e w' => (∃ u, e = .returned u ∧ NRow0 w0 w.heap.size w' u (letsT t)) ∧ Below w.heap.size w w' := by
 have hb0 : Below w.heap.size w (w.alloc (.cells #[.int .i64 3, .int .i64 4] 3)) := (Below.refl _ _).alloc (Nat.le_refl _) _
 have HC := hide (kinds_any [3, 4] (by decide) w.heap.size t p w0 (w.alloc (.cells #[.int .i64 3, .int .i64 4] 3)) h (hw.trans (hb0.mono hw.size)) hl (cells_int2 w 3 4))
 rw [ofKs_let] at HC
 have HB := hide hb0
 clear h hb0 hw
 unfold letsT
 go_enter Tryz.func34, Tryz.ntmps34
 exact zbdz
end
def NMap (m : Nat) (c : ByteArray → Int) (W : World) : Prop := ∃ l : List (ByteArray × Value), W.heap[m]? = some (.map (mapOf l) l.length) ∧ ∀ s, ((l.find? (fun e => decide (s = e.1))).map (·.2)).getD (.int .i64 0) = .int .i64 (c s)
section
variable {m : Nat} {c : ByteArray → Int}
include m c
theorem NMap.look {W : World} (h : NMap m c W) (s : ByteArray) : (Instr.lookup 98 (.map (some m)) (.string s) false).run Tryz.prog W = .ok (.int .i64 (c s)) W := by
 obtain ⟨l, h1, h2⟩ := h
 rw [lookup_one 98 3 m l.length l s (.int .i64 0) W Tryz.underlying98 h1 (by kernel_rfl), h2]
theorem NMap.lt {W : World} (h : NMap m c W) : m < W.heap.size := by
 obtain ⟨l, h1, _⟩ := h
 exact lt_of_heap h1
theorem NMap.later {W X : World} (h : NMap m c W) (hb : X.heap[m]? = W.heap[m]?) : NMap m c X := by
 obtain ⟨l, h1, h2⟩ := h
 exact ⟨l, hb.trans h1, h2⟩
end
def updC (c : ByteArray → Int) (s : ByteArray) (v : Int) : ByteArray → Int := fun x => if x = s then v else c x
theorem NMap.put {m : Nat} {c : ByteArray → Int} {W : World} (h : NMap m c W) (s : ByteArray) (v : Int) : ∃ W2, (Instr.mapUpdate 98 (.map (some m)) (.string s) (.int .i64 v)).run Tryz.prog W = .ok () W2 ∧ NMap m (updC c s v) W2 ∧ W2.heap.size = W.heap.size ∧ (∀ k, k ≠ m → W2.heap[k]? = W.heap[k]?) ∧ W2.os = W.os ∧ W2.tape = W.tape ∧ W2.output = W.output := by
 have hlt := h.lt
 obtain ⟨l, h1, h2⟩ := h
 cases hf : l.find? (fun e => decide (s = e.1)) with
 | none =>
  refine ⟨_, update_new 98 3 m l s (.int .i64 v) W Tryz.underlying98 h1 hf, ⟨l ++ [(s, .int .i64 v)], by rw [setMap_at hlt]; simp, fun x => ?_⟩, setMap_size _ _ _, fun k hk => setMap_other hk, rfl, rfl, rfl⟩
  rw [List.find?_append]; unfold updC
  by_cases hx : x = s
  ·
   subst hx; rw [hf, if_pos rfl]; simp
  ·
   rw [if_neg hx, ← h2 x]
   cases hfx : l.find? (fun e => decide (x = e.1)) with
   | some y => rfl
   | none => simp [hx]
 | some y =>
  refine ⟨_, update_old 98 3 m l.length l s (.int .i64 v) W Tryz.underlying98 h1 y hf, ⟨setL s (.int .i64 v) l, by rw [setMap_at hlt, setL_len], fun x => ?_⟩, setMap_size _ _ _, fun k hk => setMap_other hk, rfl, rfl, rfl⟩
  rw [find_setL s x _ l (by rw [hf]; rfl)]
  unfold updC
  by_cases hx : x = s
  ·
   rw [if_pos hx, if_pos hx]; rfl
  ·
   rw [if_neg hx, if_neg hx]; exact h2 x
def occ (ns : List ByteArray) (x : ByteArray) : Int := ((ns.filter fun y => decide (x = y)).length : Int)
def addC (c : ByteArray → Int) (ns : List ByteArray) (b : Int) : ByteArray → Int := fun x => c x + b * occ ns x
section
variable (ns : List ByteArray)
include ns
theorem occ_snoc (y x : ByteArray) : occ (ns ++ [y]) x = occ ns x + if x = y then 1 else 0 := by
 unfold occ
 rw [List.filter_append, List.length_append]
 by_cases h : x = y
 all_goals
  simp [h]
theorem occ_le (x : ByteArray) : 0 ≤ occ ns x ∧ occ ns x ≤ ns.length := by
 unfold occ
 have := List.length_filter_le (fun y => decide (x = y)) ns
 omega
theorem occ_pos (x : ByteArray) : 0 < occ ns x ↔ x ∈ ns := by
 unfold occ
 constructor
 ·
  intro h; have h1 : 0 < (ns.filter fun y => decide (x = y)).length := by omega
  obtain ⟨y, hy⟩ := List.exists_mem_of_length_pos h1; have h2 := List.mem_filter.1 hy; have h3 : x = y := of_decide_eq_true h2.2; rw [h3]; exact h2.1
 ·
  intro h; have h1 : x ∈ ns.filter fun y => decide (x = y) := List.mem_filter.2 ⟨h, decide_eq_true rfl⟩; have := List.length_pos_of_mem h1; omega
end
theorem wrap_small {a : Int} (h1 : -4000000000 ≤ a) (h2 : a ≤ 4000000000) : IntKind.i64.wrap a = a := by
 simp [IntKind.wrap, IntKind.bits, IntKind.signed]
 omega
theorem Ap.put {m B : Nat} {w W W2 : World} (h : Ap m B w W) (h1 : W2.heap.size = W.heap.size) (h2 : ∀ k, k ≠ m → W2.heap[k]? = W.heap[k]?) (h3 : W2.os = W.os) (h4 : W2.tape = W.tape) (h5 : W2.output = W.output) : Ap m B w W2 :=
 ⟨h3.trans h.os, h4.trans h.tape, h5.trans h.output, by rw [h1]; exact h.size, fun k hk hr => (h2 k hr).trans (h.block k hk hr)⟩
section
variable (F : Nat) (f : Tr → Bool) (hen : ∀ args W, (callFunc F args).run Tryz.prog W = .ok (.enter F args) W) (ts : List Tr) (v : Value) (w : World) {B : Nat} (h : NRow B w v ts) (hl : ts.length ≤ 90000) (hF : ∀ t ∈ ts, ∀ p W, Below w.heap.size w W → NTr W t p → Calls Tryz.prog F #[nPtr p] W fun e w' => e = .returned (.bool (f t)) ∧ Below W.heap.size W w')
include F f hen ts v w B h hl hF
theorem indexF0 :
  Calls Tryz.prog 269 #[v, fnV F] w fun e w' => (∃ k : Int, e = .returned (.int .i64 k) ∧ decide (0 ≤ k) = ts.any f) ∧ Below w.heap.size w w' := by
 exact zbbb
theorem containsF0 :
  Calls Tryz.prog 249 #[v, fnV F] w fun e w' => e = .returned (.bool (ts.any f)) ∧ Below w.heap.size w w' := by
 have HC := hide (indexF0 F f hen ts v w h hl hF)
 exact zbee
end
section
variable (F : Nat) (c : Value) (f : Tr → Bool) (hen : ∀ args W, (callFunc F args).run Tryz.prog W = .ok (.enter F args) W) (ts : List Tr) (v : Value) (w : World) {B : Nat} (h : NRow B w v ts) (hl : ts.length ≤ 90000) (hF : ∀ t ∈ ts, ∀ p W, Below w.heap.size w W → NTr W t p → Calls Tryz.prog F #[nPtr p, c] W fun e w' => e = .returned (.bool (f t)) ∧ Below W.heap.size W w')
include F c f hen ts v w B h hl hF
theorem indexF1 :
  Calls Tryz.prog 269 #[v, .func (.func F) #[] #[c]] w fun e w' => (∃ k : Int, e = .returned (.int .i64 k) ∧ decide (0 ≤ k) = ts.any f) ∧ Below w.heap.size w w' := by
 exact zbbb
theorem containsF1 :
  Calls Tryz.prog 249 #[v, .func (.func F) #[] #[c]] w fun e w' => e = .returned (.bool (ts.any f)) ∧ Below w.heap.size w w' := by
 have HC := hide (indexF1 F c f hen ts v w h hl hF)
 exact zbee
end
def namedB (l : List Tr) (x : ByteArray) : Bool := l.any fun k => decide (k.tx = x)
theorem en268 : ∀ args W, (callFunc 268 args).run Tryz.prog W = .ok (.enter 268 args) W := fun _ _ => by kernel_rfl
theorem named1_any (t : Tr) (p b : Nat) (x : ByteArray) (w : World) (h : NTr w t p) (hx : w.cell? ⟨b, 0, none⟩ = some (.string x)) : Calls Tryz.prog 268 #[nPtr p, .pointer (some ⟨b, 0, none⟩)] w fun e w' => e = .returned (.bool (decide (t.tx = x))) ∧ Below w.heap.size w w' := by
 obtain ⟨hpl, _, c1, _⟩ := h.cells
 obtain ⟨tx, htx⟩ : ∃ tx, tx = t.tx := ⟨_, rfl⟩
 rw [← htx] at c1 ⊢
 have hbl : b < w.heap.size := by
  rcases Nat.lt_or_ge b w.heap.size with h1 | h1
  ·
   exact h1
  ·
   have h2 : w.heap[b]? = none := Array.getElem?_eq_none h1; simp [World.cell?, h2] at hx
 clear h htx
 by_cases he : tx = x
 ·
  subst he; have e1 : decide (tx = tx) = true := decide_eq_true rfl; rw [e1]; clear e1; exact zbgt
 ·
  rw [decide_eq_false he]; have hne := tl_ne he; clear he; exact zbgt
theorem named_any (ts : List Tr) (v : Value) (x : ByteArray) (w : World) {B : Nat} (h : NRow B w v ts) (hl : ts.length ≤ 90000) :
  Calls Tryz.prog 247 #[v, .string x] w fun e w' => e = .returned (.bool (namedB ts x)) ∧ Below w.heap.size w w' := by
 obtain ⟨wa, hwa⟩ : ∃ wa, wa = w.alloc (.cells #[.string x] 9) := ⟨_, rfl⟩
 have hba : Below w.heap.size w wa := by rw [hwa]; exact (Below.refl _ _).alloc (Nat.le_refl _) _
 have hsa : wa.heap.size = w.heap.size + 1 := by rw [hwa]; simp
 have hxa : wa.cell? ⟨w.heap.size, 0, none⟩ = some (.string x) := by rw [hwa, cell_of (heap_new _ _)]; rfl
 have HC := hide (containsF1 268 (.pointer (some ⟨w.heap.size, 0, none⟩)) (fun k => decide (k.tx = x)) en268 ts v wa (h.later hba) hl (fun t _ p W hb hn => named1_any t p _ x W hn ((World.cell?_of_block (w := wa) (a := ⟨w.heap.size, 0, none⟩) (hb.block w.heap.size (by omega))).trans hxa)))
 obtain ⟨va, vc, rfl⟩ := h.form
 have HBA := hide hba
 clear h hba hsa hxa
 go_enter Tryz.func247, Tryz.ntmps247
 go_wp2_with fail
 rw [← hwa]
 refine cm HC.out ?_
 rintro e w1 ⟨rfl, hb⟩
 have HB := hide (HBA.out.trans (hb.mono HBA.out.size))
 clear HC hb hwa
 go_wp2_with fail
 go_ret
 exact ⟨rfl, HB.out⟩
theorem cell_lt {w : World} {b o : Nat} {v : Value} (h : w.cell? ⟨b, o, none⟩ = some v) : b < w.heap.size := by
 exact zbfv
theorem keepC {w X : World} {b o : Nat} {v : Value} (hb : Below w.heap.size w X) (h : w.cell? ⟨b, o, none⟩ = some v) : X.cell? ⟨b, o, none⟩ = some v :=
 (World.cell?_of_block (w := w) (a := ⟨b, o, none⟩) (hb.block b (cell_lt h))).trans h
abbrev tEval : ByteArray := ⟨#[101, 118, 97, 108]⟩
abbrev tArgs : ByteArray := ⟨#[97, 114, 103, 117, 109, 101, 110, 116, 115]⟩
def erV : Option Int → Value
 | none => .nilIface
 | some e => .iface 23 (.int .i64 e)
abbrev plV (s i b : Bool) : Value := .agg #[.bool s, .bool i, .bool b]
def isSp (x : ByteArray) : Bool := decide (x = tEval) || decide (x = tArgs)
def nmE (s : Bool) (x : ByteArray) : Option Int := if s && isSp x then some 5 else none
def strictT (t : Tr) : Bool := (t.kd == 1 || t.kd == 6) && decide (t.tx = tStrict)
theorem wrongName_any (s i b : Bool) (x : ByteArray) (w : World) : Calls Tryz.prog 205 #[.string x, plV s i b] w fun e w' => e = .returned (erV (nmE s x)) ∧ Below w.heap.size w w' := by
 unfold nmE isSp
 have HB := hide ((Below.refl w.heap.size w).alloc (Nat.le_refl _) (.cells #[.bool s, .bool i, .bool b] 112))
 cases s with
 | false =>
  exact zben
 | true =>
  by_cases h1 : x = tEval
  ·
   have e1 := tl_eqL (b := tEval) rfl h1; rw [decide_eq_true h1]; clear h1; exact zben
  ·
   have e1 := tl_neL (b := tEval) rfl h1; rw [decide_eq_false h1]; clear h1
   by_cases h2 : x = tArgs
   ·
    have e2 := tl_eqL (b := tArgs) rfl h2; rw [decide_eq_true h2]; clear h2; exact zben
   ·
    have e2 := tl_neL (b := tArgs) rfl h2; rw [decide_eq_false h2]; clear h2; exact zben
section
variable (t : Tr) (p : Nat) (w : World) (h : NTr w t p)
include t p w h
theorem strictE_any : Calls Tryz.prog 18 #[nPtr p] w fun e w' => e = .returned (.bool (strictT t)) ∧ w' = w := by
 obtain ⟨hpl, c0, c1, _⟩ := h.cells
 clear h
 unfold strictT
 generalize t.kd = kd at c0
 generalize t.tx = tx at c1
 by_cases h2 : tx = tStrict
 ·
  have e2 := tl_eqL (b := tStrict) rfl h2; rw [decide_eq_true h2]; exact zbfx
 ·
  have e2 := tl_neL (b := tStrict) rfl h2; rw [decide_eq_false h2]; exact zbfx
theorem isFunE_any : Calls Tryz.prog 141 #[nPtr p] w fun e w' => e = .returned (.bool (isFunT t)) ∧ w' = w := by
 obtain ⟨hpl, c0, _, _⟩ := h.cells
 clear h
 unfold isFunT
 generalize t.kd = kd at c0
 cases h3 : (kd == 5)
 all_goals
  go_enter Tryz.func141, Tryz.ntmps141; go_wp2_with fail; go_ret; exact ⟨rfl, rfl⟩
end
def kidT (t : Tr) (k : Nat) : Tr := t.kids.getD k t
theorem kidT_eq (t : Tr) (k : Nat) (h : k < t.kids.length) : kidT t k = t.kids[k] := by simp [kidT, List.getD, h]
section
variable (t : Tr) (p : Nat) (w : World) (h : NTr w t p)
include t p w h
theorem blockE_any (hk : 2 ≤ t.kids.length) (hl : t.kids.length ≤ 90000) : Calls Tryz.prog 142 #[nPtr p] w fun e w' => (∃ q, e = .returned (nPtr q) ∧ NTr w (kidT t 1) q) ∧ w' = w := by
 obtain ⟨hpl, _, _, u, c3, hr⟩ := h.cells
 obtain ⟨g, cap, q, rfl, hg, hc, hn⟩ := hr.cell 1 (by omega)
 rw [← kidT_eq t 1 (by omega)] at hn
 have HN := hide hn
 clear hr h hn
 generalize hL : t.kids.length = L at c3 hk hl
 clear hL
 go_enter Tryz.func142, Tryz.ntmps142
 go_wp2_with fail
 go_ret
 exact ⟨⟨q, rfl, HN.out⟩, rfl⟩
theorem paramsE_any (hk : 1 ≤ t.kids.length) (hl : t.kids.length ≤ 90000) : Calls Tryz.prog 250 #[nPtr p] w fun e w' => (∃ u, e = .returned u ∧ NRow 0 w u (kidT t 0).kids) ∧ w' = w := by
 obtain ⟨hpl, _, _, u, c3, hr⟩ := h.cells
 obtain ⟨g, cap, q, rfl, hg, hc, hn⟩ := hr.cell 0 (by omega)
 rw [← kidT_eq t 0 (by omega)] at hn
 obtain ⟨hql, _, _, u2, d3, hr2⟩ := hn.cells
 obtain ⟨a2, c2, rfl⟩ := hr2.form
 have HR := hide hr2
 clear hr h hn hr2
 generalize hL : t.kids.length = L at c3 hk hl
 clear hL
 go_enter Tryz.func250, Tryz.ntmps250
 go_wp2_with fail
 go_ret
 exact ⟨⟨_, rfl, HR.out⟩, rfl⟩
end
def declK (t : Tr) : Bool := t.kd == 3 || t.kd == 4 || t.kd == 5
theorem en252 : ∀ args W, (callFunc 252 args).run Tryz.prog W = .ok (.enter 252 args) W := fun _ _ => by kernel_rfl
theorem en245 : ∀ args W, (callFunc 245 args).run Tryz.prog W = .ok (.enter 245 args) W := fun _ _ => by kernel_rfl
theorem en246 : ∀ args W, (callFunc 246 args).run Tryz.prog W = .ok (.enter 246 args) W := fun _ _ => by kernel_rfl
theorem enE251 : ∀ args W, (callFunc 251 args).run Tryz.prog W = .ok (.enter 251 args) W := fun _ _ => by kernel_rfl
theorem branch1_any (t : Tr) (p : Nat) (w : World) (h : NTr w t p) : Calls Tryz.prog 252 #[nPtr p] w fun e w' => e = .returned (.bool (declK t)) ∧ Below w.heap.size w w' := by
 obtain ⟨hpl, c0, _, _⟩ := h.cells
 clear h
 unfold declK
 generalize t.kd = kd at c0
 cases h3 : (kd == 3) <;> cases h4 : (kd == 4) <;>
 ·
  go_enter Tryz.func252, Tryz.ntmps252; go_wp2_with fail; go_ret; exact ⟨rfl, Below.refl _ _⟩
theorem scope1_any (t : Tr) (p b : Nat) (l : List ByteArray) (va : Option Addr) (vc : Nat) (w : World) {B : Nat} (h : NTr w t p) (hb : w.cell? ⟨b, 0, none⟩ = some (.slice va l.length vc)) (hr : SRow B w (.slice va l.length vc) l) (hl : l.length ≤ 90000) :
  Calls Tryz.prog 245 #[nPtr p, .pointer (some ⟨b, 0, none⟩)] w fun e w' => e = .returned (.bool (hasB l t.tx)) ∧ Below w.heap.size w w' := by
 obtain ⟨hpl, _, c1, _⟩ := h.cells
 have HC := hide (contains_any l t.tx _ w.drew hr (by omega))
 clear h hr
 generalize t.tx = tx at c1 HC
 have hbl := cell_lt hb
 go_enter Tryz.func245, Tryz.ntmps245
 go_wp2_with fail
 refine wp_region_held (S := fun X => X = w.drew) (by kernel_rfl) ?_
 change wpAnyH _ _ _ _ _ _ _ _ (World.drew _)
 refine wh 0 (.slice va l.length vc) rfl ?_ (hy := Or.inl ⟨by kernel_rfl, fun X hX => by cases hX; go_simp⟩)
 refine wh 1 (nPtr p) rfl ?_
 refine wh 2 (nPtr p) rfl ?_
 refine wh 3 (.pointer (some ⟨p, 1, none⟩)) rfl ?_
 refine wh 4 (.string tx) rfl ?_ (hy := Or.inl ⟨by kernel_rfl, fun X hX => by cases hX; go_simp⟩)
 refine wq1 5 fun K hK => ?_
 go_simp
 refine cm HC.out ?_
 rintro e w2 ⟨rfl, rfl⟩
 refine hK.out _ _ rfl (fun _ => ?_)
 clear hK K HC
 refine wh 6 (.bool (hasB l tx)) rfl ?_
 refine wpAnyH_done (by kernel_rfl) ?_ _
 go_simp
 go_wp2_with fail
 go_ret
 exact ⟨rfl, (Below.refl _ _).drew⟩
theorem scope2_any (t : Tr) (p b : Nat) (ts : List Tr) (va : Option Addr) (vc : Nat) (w : World) {B : Nat} (h : NTr w t p) (hb : w.cell? ⟨b, 0, none⟩ = some (.slice va ts.length vc)) (hr : NRow B w (.slice va ts.length vc) ts) (hl : ts.length ≤ 90000) :
  Calls Tryz.prog 246 #[nPtr p, .pointer (some ⟨b, 0, none⟩)] w fun e w' => e = .returned (.bool (namedB ts t.tx)) ∧ Below w.heap.size w w' := by
 obtain ⟨hpl, _, c1, _⟩ := h.cells
 have HC := hide (named_any ts _ t.tx w.drew (hr.later (Below.refl _ _).drew) hl)
 clear h hr
 generalize t.tx = tx at c1 HC
 have hbl := cell_lt hb
 have hS0 : Below w.heap.size w w.drew := (Below.refl _ _).drew
 go_enter Tryz.func246, Tryz.ntmps246
 go_wp2_with fail
 refine wp_region_held (S := fun X => Below w.heap.size w X) (by kernel_rfl) ?_
 change wpAnyH _ _ _ _ _ _ _ _ (World.drew _)
 refine wh 0 (.slice va ts.length vc) hS0 ?_ (hy := Or.inl ⟨by kernel_rfl, fun X hX => by have hh := keepC hX hb; go_simp⟩)
 refine wh 1 (nPtr p) hS0 ?_
 refine wh 2 (nPtr p) hS0 ?_
 refine wh 3 (.pointer (some ⟨p, 1, none⟩)) hS0 ?_
 refine wh 4 (.string tx) hS0 ?_ (hy := Or.inl ⟨by kernel_rfl, fun X hX => by have hh := keepC hX c1; go_simp⟩)
 refine wq1 5 fun K hK => ?_
 go_simp
 refine cm HC.out ?_
 rintro e w2 ⟨rfl, hb2⟩
 have hS2 : Below w.heap.size w w2 := hS0.trans (hb2.mono (Nat.le_refl _))
 refine hK.out _ _ hS2 (fun _ => ?_)
 clear hK K HC
 refine wh 6 (.bool (namedB ts tx)) hS2 ?_
 refine wpAnyH_done (by kernel_rfl) ?_ _
 go_simp
 have HS2 := hide hS2
 clear hS2 hS0 hb2
 go_wp2_with fail
 go_ret
 exact ⟨rfl, HS2.out⟩
theorem func1_any (t f : Tr) (p b q : Nat) (w : World) (h : NTr w t p) (hb : w.cell? ⟨b, 0, none⟩ = some (nPtr q)) (hf : NTr w f q) (hk : 1 ≤ f.kids.length) (hkl : f.kids.length ≤ 90000) (hl : (kidT f 0).kids.length ≤ 90000) :
  Calls Tryz.prog 251 #[nPtr p, .pointer (some ⟨b, 0, none⟩)] w fun e w' => e = .returned (.bool (namedB (kidT f 0).kids t.tx)) ∧ Below w.heap.size w w' := by
 obtain ⟨hpl, _, c1, _⟩ := h.cells
 have hS0 : Below w.heap.size w w.drew := (Below.refl _ _).drew
 have HP := hide (paramsE_any f q w.drew (hf.later hS0) hk hkl)
 clear h hf
 generalize t.tx = tx at c1
 have hbl := cell_lt hb
 go_enter Tryz.func251, Tryz.ntmps251
 go_wp2_with fail
 refine wp_region_held (S := fun X => Below w.heap.size w X) (by kernel_rfl) ?_
 change wpAnyH _ _ _ _ _ _ _ _ (World.drew _)
 refine wh 0 (nPtr q) hS0 ?_ (hy := Or.inl ⟨by kernel_rfl, fun X hX => by have hh := keepC hX hb; go_simp⟩)
 refine wh 2 (nPtr p) hS0 ?_
 refine wh 3 (nPtr p) hS0 ?_
 refine wh 4 (.pointer (some ⟨p, 1, none⟩)) hS0 ?_
 refine wh 5 (.string tx) hS0 ?_ (hy := Or.inl ⟨by kernel_rfl, fun X hX => by have hh := keepC hX c1; go_simp⟩)
 refine wq1 1 fun K hK => ?_
 go_simp
 refine cm HP.out ?_
 rintro e w2 ⟨⟨u, rfl, hr⟩, rfl⟩
 obtain ⟨va, vc, rfl⟩ := hr.form
 refine hK.out _ _ hS0 (fun _ => ?_)
 clear hK K HP
 have HC := hide (named_any (kidT f 0).kids _ tx w.drew hr hl)
 clear hr
 refine wq1 6 fun K hK => ?_
 go_simp
 refine cm HC.out ?_
 rintro e w3 ⟨rfl, hb3⟩
 have hS2 : Below w.heap.size w w3 := hS0.trans (hb3.mono (Nat.le_refl _))
 refine hK.out _ _ hS2 (fun _ => ?_)
 clear hK K HC
 refine wh 7 (.bool (namedB (kidT f 0).kids tx)) hS2 ?_
 refine wpAnyH_done (by kernel_rfl) ?_ _
 go_simp
 have HS2 := hide hS2
 clear hS2 hS0 hb3
 go_wp2_with fail
 go_ret
 exact ⟨rfl, HS2.out⟩
theorem NAts.take {I : Nat → Prop} {w : World} : ∀ (ts : List Tr) (ps : List Nat), NAts I w ts ps → ∀ k, NAts I w (ts.take k) (ps.take k)
 | [], ps, h, k => by rw [NAts] at h; subst h; simpa using NAts.nil
 | t :: ts, ps, h, k => by
  rw [NAts] at h; obtain ⟨p, ps', rfl, h1, h2⟩ := h
  cases k with
  | zero => simpa using NAts.nil
  | succ k => simpa using NAts.cons h1 (NAts.take ts ps' h2 k)
theorem NRow.take {B : Nat} {w : World} {g cap : Nat} {ts : List Tr} (h : NRow B w (.slice (some ⟨g, 0, none⟩) ts.length cap) ts) (k : Nat) (hk : k ≤ ts.length) : NRow B w (.slice (some ⟨g, 0, none⟩) k cap) (ts.take k) := by
 obtain ⟨ps, h1, h2⟩ := h
 have hl := NAts.length _ _ h2
 refine ⟨ps.take k, ?_, NAts.take _ _ h2 k⟩
 have hlk : (ps.take k).length = k := by rw [List.length_take]; omega
 rw [hlk]
 refine ⟨by simp; omega, Or.inr ?_⟩
 rcases h1.2 with hn | ⟨g', cap', cur, hv, hb, hg, hc, hm, hz, hx⟩
 ·
  exact absurd hn.1 (by simp)
 ·
  simp only [Value.slice.injEq, Option.some.injEq, Addr.mk.injEq] at hv; obtain ⟨⟨rfl, _, _⟩, _, rfl⟩ := hv; refine ⟨g, cap, cur, rfl, hb, hg, by omega, hm, hz, ?_⟩; have h3 := congrArg (List.take k) hx
  rw [List.take_take, Nat.min_eq_left (by omega)] at h3; rw [Nat.mul_one, h3, ← List.map_take]
def txAt (l : List Tr) (i : Nat) : ByteArray := (l.map Tr.tx).getD i noText
theorem txAt_eq (l : List Tr) (i : Nat) (h : i < l.length) : txAt l i = (l[i]).tx := by simp [txAt, List.getD, h]
def repF (l : List Tr) (i : Nat) : Bool := namedB (l.take i) (txAt l i)
def repB (l : List Tr) : Bool := (List.range l.length).any (repF l)
theorem repeated_any (ts : List Tr) (v : Value) (w : World) {B : Nat} (h : NRow B w v ts) (hl : ts.length ≤ 90000) :
  Calls Tryz.prog 248 #[v] w fun e w' => e = .returned (.bool (repB ts)) ∧ Below w.heap.size w w' := by
 obtain ⟨va, vc, rfl⟩ := h.form
 have HR := hide h
 obtain ⟨R, hR⟩ : ∃ R, R = repB ts := ⟨_, rfl⟩
 rw [← hR]
 have HRR := hide hR
 clear h hR
 go_enter Tryz.func248, Tryz.ntmps248
 go_wp2_with fail
 go_loopw [7] (fun i wr => ∃ k : Nat, k ≤ ts.length ∧ i = .int .i64 k ∧ (List.range k).any (repF ts) = false ∧ Below w.heap.size w wr) (fun i _ => ts.length - (intOf i).toNat)
 case atStart => exact ⟨0, Nat.zero_le _, rfl, rfl, Below.refl _ _⟩
 case round =>
  obtain ⟨k, hk, rfl, hns, hb⟩ := hrel; have HNS := hide hns; have HB := hide hb; clear hns hb
  by_cases hlt : k < ts.length
  ·
   obtain ⟨g, cap, q, hv, hg, hc, hn⟩ := (HR.out.later HB.out).cell k hlt; simp only [Value.slice.injEq] at hv; obtain ⟨rfl, _, rfl⟩ := hv; have hki : (k : Int) < (ts.length : Int) := by omega
   obtain ⟨hql, _, c1, _⟩ := hn.cells; rw [← txAt_eq ts k hlt] at c1; obtain ⟨tx, htx⟩ : ∃ tx, tx = txAt ts k := ⟨_, rfl⟩; rw [← htx] at c1; have hS0 : Below wr.heap.size wr wr.drew := (Below.refl _ _).drew
   have HC := hide (named_any (ts.take k) _ tx wr.drew (((HR.out.later HB.out).take k hk).later hS0) (by rw [List.length_take]; omega))
   obtain ⟨r, hr⟩ : ∃ r, r = namedB (ts.take k) tx := ⟨_, rfl⟩; rw [← hr] at HC; have HRF : Hid (repF ts k = r) := by rw [hr, htx]; rfl
   clear hn htx hr; have hk64 : (k : Int) ≤ (vc : Int) := by
    obtain ⟨ps, ho, hns⟩ := unhide HR; have hpl := NAts.length _ _ hns
    rcases ho.2 with hn | ⟨g', cap', cur, hv, _, _, hc', _⟩
    ·
     exact absurd hn.1 (by simp)
    ·
     simp only [Value.slice.injEq] at hv; omega
   have hvc : vc ≤ maxLen := by
    obtain ⟨ps, ho, hns⟩ := unhide HR
    rcases ho.2 with hn | ⟨g', cap', cur, hv, _, _, hc', hm, _⟩
    ·
     exact absurd hn.1 (by simp)
    ·
     simp only [Value.slice.injEq] at hv; omega
   go_wp2_with fail; refine wp_region_held (S := fun X => Below wr.heap.size wr X) (by kernel_rfl) ?_; change wpAnyH _ _ _ _ _ _ _ _ (World.drew _); refine wh 0 (.slice (some ⟨g, 0, none⟩) ts.length vc) hS0 ?_
   refine wh 1 (.int .i64 k) hS0 ?_; refine wh 3 (nPtr q) hS0 ?_; refine wh 4 (nPtr q) hS0 ?_; refine wh 5 (.pointer (some ⟨q, 1, none⟩)) hS0 ?_
   refine wh 6 (.string tx) hS0 ?_ (hy := Or.inl ⟨by kernel_rfl, fun X hX => by have hh := keepC hX c1; go_simp⟩)
   refine wh 2 (.slice (some ⟨g, 0, none⟩) k vc) hS0 ?_; refine wq1 7 fun K hK => ?_; go_simp; refine cm HC.out ?_; rintro e w2 ⟨rfl, hb2⟩; have hS2 : Below wr.heap.size wr w2 := hS0.trans (hb2.mono (Nat.le_refl _))
   refine hK.out _ _ hS2 (fun _ => ?_); clear hK K HC; refine wpAnyH_done (by kernel_rfl) ?_ _; go_simp; have HB2 := hide (HB.out.trans (hS2.mono HB.out.size)); clear hS2 hS0 hb2
   cases r with
   | true =>
    have hRt : R = true := by
     rw [HRR.out, repB, List.any_eq_true]; exact ⟨k, List.mem_range.2 hlt, HRF.out⟩
    subst hRt; go_wp2_with fail; go_ret; exact ⟨rfl, HB2.out⟩
   | false =>
    go_wp2_with fail
    go_roundw
    case rel =>
     refine ⟨k + 1, by omega, by go_num, ?_, HB2.out⟩; rw [List.range_succ, List.any_append, HNS.out]; simp [HRF.out]
    case measure => simp [intOf]; omega
  ·
   have hkk : k = ts.length := by omega
   subst hkk; have hRf : R = false := by rw [HRR.out]; exact unhide HNS
   subst hRf; go_wp2_with fail; go_ret; exact ⟨rfl, HB.out⟩
def brE (t : Tr) (s : Bool) : Option Int := if (t.kd == 9 && s) || t.kids.any declK then some 1 else none
theorem wrongBranch_any (t : Tr) (p : Nat) (s i b : Bool) (w : World) (h : NTr w t p) (hl : t.kids.length ≤ 90000) : Calls Tryz.prog 207 #[nPtr p, plV s i b] w fun e w' => e = .returned (erV (brE t s)) ∧ Below w.heap.size w w' := by
 obtain ⟨wa, hwa⟩ : ∃ wa, wa = w.alloc (.cells #[.bool s, .bool i, .bool b] 112) := ⟨_, rfl⟩
 have hba : Below w.heap.size w wa := by rw [hwa]; exact (Below.refl _ _).alloc (Nat.le_refl _) _
 obtain ⟨hpl, c0, _, u, c3, hr⟩ := h.cells
 obtain ⟨va, vc, rfl⟩ := hr.form
 have HC := hide (containsF0 252 declK en252 t.kids _ wa (hr.later hba) hl (fun t _ p W _ hn => branch1_any t p W hn))
 have HBA := hide hba
 unfold brE
 clear h hr hba
 generalize t.kids.any declK = r at HC
 generalize t.kids.length = L at c3 HC
 generalize t.kd = kd at c0
 cases h9 : (kd == 9 && s) with
 | true =>
  have h1 : (kd == 9) = true := by cases hh : (kd == 9) <;> simp_all
  have h2 : s = true := by cases s <;> simp_all
  subst h2; clear h9 HC; rw [hwa] at HBA; clear hwa; go_enter Tryz.func207, Tryz.ntmps207; go_wp2_with fail; go_ret; exact ⟨rfl, HBA.out⟩
 | false =>
  cases h1 : (kd == 9) with
  | true =>
   have h2 : s = false := by cases s <;> simp_all
   subst h2; exact zbef
  | false =>
   exact zbef
end Go.Proofs.YtodmgaikhbmlnaaGreatDoor
