/-
  Number: each node's number, as they come.
-/
import Derived.Test.YtoimgcjbcbhclaaGreatDoorRn38
set_option maxRecDepth 100000
set_option maxHeartbeats 16000000
namespace Go.Proofs.YtoimgcjbcbhclaaGreatDoor
open Go.RowKit
def nodL (l : List Nat) : List (Nat × Value) := l.zipIdx.map fun e => (e.1, .int .i64 (e.2 : Int))
theorem zn2 (l : List Nat) : (nodL l).length = l.length := by simp [nodL]
theorem nodL_snoc (l : List Nat) (p : Nat) : nodL (l ++ [p]) = nodL l ++ [(p, .int .i64 (l.length : Int))] := by
 simp [nodL, List.zipIdx_append, List.zipIdx]
theorem nodL_mem {l : List Nat} {e : Nat × Value} (h : e ∈ nodL l) : e.1 ∈ l := by
 unfold nodL at h
 obtain ⟨x, hx, rfl⟩ := List.mem_map.1 h
 obtain ⟨x1, x2⟩ := x
 have := List.mem_zipIdx hx
 simp only
 rw [this.2.2]
 exact List.getElem_mem _
theorem find_zip (p : Nat) : ∀ (l : List Nat) (n : Nat), p ∈ l → (((l.zipIdx n).map fun e => (e.1, Value.int .i64 (e.2 : Int))).find? (fun e => decide (p = e.1))).map (·.2) = some (.int .i64 ((n + l.idxOf p : Nat) : Int))
 | [], _, h => absurd h (by simp)
 | x :: l, n, h => by
  rw [List.zipIdx_cons, List.map_cons, List.find?_cons, List.idxOf_cons]
  by_cases hx : p = x
  ·
   subst hx; simp
  ·
   have h2 : p ∈ l := by exact (List.mem_cons.1 h).resolve_left hx
   have h3 : (x == p) = false := beq_eq_false_iff_ne.2 (Ne.symm hx); simp only [decide_eq_false hx, h3]; rw [find_zip p l (n + 1) h2]; simp only [cond_false]
   congr 3
   omega
theorem nodL_find {p : Nat} {l : List Nat} (h : p ∈ l) : (((nodL l).find? (fun e => decide (p = e.1))).map (·.2)).getD (.int .i64 0) = .int .i64 ((l.idxOf p : Nat) : Int) := by
 unfold nodL
 rw [find_zip p l 0 h, Nat.zero_add]
 rfl
theorem nodL_none {p : Nat} {l : List Nat} (h : p ∉ l) : (nodL l).find? (fun e => decide (p = e.1)) = none := by
 rw [List.find?_eq_none]
 intro e he
 have := nodL_mem he
 simp only [decide_eq_true_eq]
 rintro rfl
 exact h this
structure Nms (mb nb : Nat) (l : List Nat) (w : World) : Prop where
 word : w.heap[nb]? = some (.cells #[.map (some mb)] 44 (0, 0))
 map : w.heap[mb]? = some (.map (mapP (nodL l)) l.length)
 old : ∀ p ∈ l, Cl w p
def nmF (l : List Nat) (t : Ad) : List Nat × Bool := (l ++ [t.p], true)
mutual
theorem wk_nm : ∀ (t : Ad) (l : List Nat), wk nmF l t = l ++ t.ads
 | .mk p kd tx n ks, l => by
  rw [wk, Ad.ads]; simp only [nmF, if_true]; rw [show (Ad.mk p kd tx n ks).p = p from rfl, wks_nm ks, List.append_assoc]; rfl
theorem wks_nm : ∀ (ts : List Ad) (l : List Nat), wks nmF l ts = l ++ Ad.adss ts
 | [], l => by rw [wks, Ad.adss, List.append_nil]
 | t :: ts, l => by rw [wks, wk_nm t, wks_nm ts, Ad.adss, List.append_assoc]
end
theorem AAt.cl {I : Nat → Prop} {w : World} {a : Ad} (h : AAt I w a) : Cl w a.p := by
 cases a with
 | mk p kd tx n ks =>
  rw [AAt] at h; obtain ⟨_, _, ⟨v, hb, _⟩, _⟩ := h; exact ⟨_, _, hb⟩
theorem number1_any {mb nb : Nat} {l : List Nat} {t : Ad} {I : Nat → Prop} {w : World} (hN : Nms mb nb l w) (ht : AAt I w t) (hp : t.p ∉ l) :
  Calls Tryz.prog 67 #[nPtr t.p, .pointer (some ⟨nb, 0, none⟩)] w fun e w' => e = .returned (.bool true) ∧ w' = zjx w mb (.map (mapP (nodL (l ++ [t.p]))) (l.length + 1)) := by
 have hw : w.cell? ⟨nb, 0, none⟩ = some (.map (some mb)) := by rw [zqy hN.word]; rfl
 have hu := update_ptr mb (nodL l) t.p (.int .i64 (l.length : Int)) w (by rw [zn2]; exact hN.map) ht.cl (fun e he => hN.old _ (nodL_mem he)) (nodL_none hp)
 rw [zn2, ← nodL_snoc] at hu
 have hl : (Builtin.len_ #[44] 3 #[.map (some mb)]).run Tryz.prog w = .ok (.int .i64 (l.length : Int)) w := by
  simp [Builtin.len_, getObj, Sem.run, hN.map, len_ptr, zn2, goInt]
 obtain ⟨p, hp2⟩ : ∃ p, p = t.p := ⟨_, rfl⟩
 rw [← hp2] at hu ⊢
 clear hN ht hp hp2
 go_enter Tryz.func67, Tryz.ntmps67
 go_wp2_with fail
 go_ret
 exact ⟨rfl, rfl⟩
theorem Cl.set {w : World} {m p : Nat} {o : Obj} {es : Array MapEntry} {k : Nat} (h : Cl w p) (hm : w.heap[m]? = some (.map es k)) : Cl (zjx w m o) p := by
 obtain ⟨cs, t, hc⟩ := h
 refine ⟨cs, t, ?_⟩
 rw [zj8 (fun e => by rw [e, hm] at hc; cases hc)]
 exact hc
theorem Nms.next {mb nb : Nat} {l : List Nat} {p : Nat} {w : World} (h : Nms mb nb l w) (hp : Cl w p) (hne : nb ≠ mb) : Nms mb nb (l ++ [p]) (zjx w mb (.map (mapP (nodL (l ++ [p]))) (l.length + 1))) := by
 refine ⟨by rw [zj8 hne]; exact h.word, by rw [zf6 (zzz h.map), List.length_append]; rfl, fun q hq => ?_⟩
 rcases List.mem_append.1 hq with hq | hq
 ·
  exact (h.old q hq).set h.map
 ·
  rw [List.mem_singleton.1 hq]; exact hp.set h.map
theorem ap_setMap {m B : Nat} (w : World) (o : Obj) : Ap m B w (zjx w m o) := ⟨rfl, rfl, rfl, by rw [zbx]; exact Nat.le_refl _, fun k _ hk => zj8 hk⟩
theorem en67 : ∀ args W, (callFunc 67 args).run Tryz.prog W = .ok (.enter 67 args) W := fun _ _ => by kernel_rfl
theorem number_any {I : Nat → Prop} (t : Ad) (w : World) (ht : AAt I w t) (hd : t.ads.Nodup) (hc : t.cnt ≤ 90000) :
  Calls Tryz.prog 24 #[nPtr t.p] w fun e w' => (∃ mb, e = .returned (.map (some mb)) ∧ w.heap.size ≤ mb ∧ w'.heap[mb]? = some (.map (mapP (nodL t.ads)) t.ads.length)) ∧ Below w.heap.size w w' := by
 obtain ⟨w2, hw2⟩ : ∃ w2, w2 = (w.alloc (.map #[] 0)).alloc (.cells #[.map (some w.heap.size)] 44) := ⟨_, rfl⟩
 have hb2 : Below w.heap.size w w2 := by
  rw [hw2]; exact (qb.alloc qv _).alloc (by simp) _
 have hs2 : w2.heap.size = w.heap.size + 2 := by rw [hw2]; simp
 have e1 : (w.alloc (.map #[] 0)).heap.size = w.heap.size + 1 := by simp
 have hN : Nms w.heap.size (w.heap.size + 1) [] w2 := by
  refine ⟨?_, ?_, fun p hp => absurd hp (by simp)⟩
  ·
   rw [hw2, ← e1]; exact zqx _ _
  ·
   rw [hw2, Below.heap_alloc _ _ _ (by simp)]; exact zqx _ _
 have HC := qh (walkG 67 (.pointer (some ⟨w.heap.size + 1, 0, none⟩)) (fun b => b < w.heap.size + 2 ∧ b ≠ w.heap.size) (Ap w.heap.size (w.heap.size + 2)) (Nms w.heap.size (w.heap.size + 1)) nmF (fun l ts => (l ++ Ad.adss ts).Nodup) en67 (fun W => by kernel_rfl)
  (fun _ _ _ h k => h.trans k) (fun w w' h => ⟨fun b hb _ => h.block b hb.1 hb.2, h.size⟩)
  (fun l t ts h => by
   simp only [nmF, if_true]; rw [Ad.adss, ads_eq] at h; rw [adss_app]; simpa using h)
  (fun l t ts w' h hI hA => by
   have hp : t.p ∉ l := by
    rw [Ad.adss, ads_eq, List.nodup_append] at h; exact fun hm => h.2.2 _ hm _ (by simp) rfl
   refine (number1_any hI hA hp).mono ?_; rintro e w3 ⟨rfl, rfl⟩; exact ⟨rfl, hI.next hA.cl (by omega), ap_setMap _ _⟩)
  t.cnt t qv hc [] [] w2 (by rw [List.nil_append, Ad.adss, Ad.adss, List.append_nil]; exact hd) hN
  (AAt.later (I := fun b => b < w.heap.size + 2 ∧ b ≠ w.heap.size) (fun b hb hl => hb2.block b hl) _ (AAt.mono (fun b _ hl => ⟨by omega, by omega⟩) _ ht)))
 rw [wk_nm, List.nil_append] at HC
 obtain ⟨p, hp⟩ : ∃ p, p = t.p := ⟨_, rfl⟩
 rw [← hp] at HC ⊢
 have HB2 := qh hb2
 have HS2 := qh hs2
 rw [hw2] at HC
 have HW2 := qh hw2
 have hmk := mkMap 44
 clear hb2 hs2 e1 hN ht hd hc hp hw2
 go_enter Tryz.func24, Tryz.ntmps24
 go_wp2_with fail
 refine cm HC.out ?_
 rintro e w3 ⟨rfl, hn3, _, ha3⟩
 have hw : w3.cell? ⟨w.heap.size + 1, 0, none⟩ = some (.map (some w.heap.size)) := by rw [zqy hn3.word]; rfl
 have HM := qh hn3.map
 rw [← HW2.out] at ha3
 have HB3 : Hid (Below w.heap.size w w3) := HB2.out.trans ((ha3.mono (by omega)).below qv)
 clear hn3 ha3 HC
 go_wp2_with fail
 go_ret
 exact ⟨⟨_, rfl, Nat.le_refl _, HM.out⟩, HB3.out⟩
theorem row_cellsP {B : Nat} {w : World} {g n cap : Nat} {ps : List Nat} (h : w.ownsRow B 22 1 (.slice (some ⟨g, 0, none⟩) n cap) n (ps.map nPtr)) : ∀ j u, (ps.map nPtr)[j]? = some u → w.cell? ((⟨g, 0, none⟩ : Addr).add j) = some u := by
 intro j u hj
 have hl : j < n * 1 := by
  rw [← h.1]; exact (List.getElem?_eq_some_iff.1 hj).1
 have h3 := h.cellAt j hl
 rw [hj] at h3
 have h4 : (⟨g, 0, none⟩ : Addr).add j = ⟨g, j, none⟩ := by simp [Addr.add]; exact Eq.symm
 rw [h4]; exact h3
theorem map_oneP (qs : List Nat) : ∀ u ∈ qs.map nPtr, u.oneCell' = true := by
 intro u hu
 obtain ⟨q, _, rfl⟩ := List.mem_map.1 hu
 rfl
theorem own_oneP (w : World) (p : Nat) {B : Nat} (hB : B ≤ w.heap.size) : (w.alloc (.cells #[nPtr p] 22)).ownsRow B 22 1 (.slice (some ⟨w.heap.size, 0, none⟩) 1 1) 1 [nPtr p] := ⟨rfl, Or.inr ⟨w.heap.size, 1, #[nPtr p], rfl, hB, zqx _ _, Nat.le_refl _, by decide, rfl, rfl⟩⟩
theorem adss_take (l : List Ad) (k : Nat) (hk : k < l.length) : Ad.adss (l.take (k + 1)) = Ad.adss (l.take k) ++ (l[k]).ads := by
 rw [List.take_succ_eq_append_getElem hk, adss_app, Ad.adss, Ad.adss, List.append_nil]
theorem allA_any {I : Nat → Prop} : ∀ (m : Nat) (t : Ad), t.cnt ≤ m → ∀ (w : World), AAt I w t → t.cnt ≤ 90000 →
  Calls Tryz.prog 25 #[nPtr t.p] w fun e w' => (∃ v, e = .returned v ∧ w'.ownsRow w.heap.size 22 1 v t.ads.length (t.ads.map nPtr)) ∧ Below w.heap.size w w' := by
 intro m
 induction m with
 | zero => intro t ht; have := cnt_pos t; omega
 | succ m ih =>
  intro t ht w hnt hbd; obtain ⟨i0, hi0, hz0, hz1, hz2⟩ := info_parts zk0; obtain ⟨_, hpl, _, _, v0, f3, hrow, _⟩ := hnt.cells; have hlen : (t.ks.map Ad.p).length = t.ks.length := List.length_map _
  obtain ⟨ua, uc, hu⟩ := zjj hrow; subst hu; rw [hlen] at f3; have hca := cnt_eq t; have HADS := qh (ads_eq t); have HKS := qh hnt.parts; have HROW := qh hrow; have HIH := qh ih; have HLEN := qh hlen
  have hkb : t.ks.length ≤ 90000 := by have h1 := cnts_len t.ks; omega
  have HCK : Hid (∀ k (hk : k < t.ks.length), (t.ks[k]).cnt ≤ m ∧ Ad.cnts (t.ks.take k) + (t.ks[k]).cnt ≤ 90000) := fun k hk => by
   have h1 : Ad.cnts t.ks = Ad.cnts (t.ks.take k) + Ad.cnts (t.ks.drop k) := by rw [← cnts_app, List.take_append_drop]
   rw [List.drop_eq_getElem_cons hk, Ad.cnts] at h1; omega
  generalize t.p = p at f3 hpl HADS ⊢
  clear hnt hrow ih ht hbd hlen hca; go_enter Tryz.func25, Tryz.ntmps25; go_wp2_with fail
  go_loopw [3, 15] (fun o i wr => ∃ (k : Nat), k ≤ t.ks.length ∧ i = .int .i64 k ∧ wr.ownsRow w.heap.size 22 1 o (p :: Ad.adss (t.ks.take k)).length ((p :: Ad.adss (t.ks.take k)).map nPtr) ∧ Below w.heap.size w wr) (fun _ i _ => t.ks.length - (intOf i).toNat)
  case atStart => exact ⟨0, Nat.zero_le _, rfl, by simpa [Ad.adss] using own_oneP w p qv, qb.alloc qv _⟩
  case round =>
   obtain ⟨k, hk, rfl, hown, hbel⟩ := hrel; have HOWN := qh hown; have HBEL := qh hbel; obtain ⟨oa, oc, rfl⟩ := zjj hown; clear hown hbel
   by_cases hlt : k < t.ks.length
   ·
    obtain ⟨g, cap, hv, hcell⟩ := zv2 HROW.out (by have := zzq HLEN; omega)
    simp only [Value.slice.injEq] at hv; obtain ⟨rfl, hxx, rfl⟩ := hv; clear hxx; have hkp : k < (t.ks.map Ad.p).length := by rw [HLEN.out]; exact hlt
    have hgl : g < w.heap.size := (zx6 HROW.out g rfl).1; obtain ⟨q, hq⟩ : ∃ q, q = (t.ks[k]).p := ⟨_, rfl⟩; have hck : wr.cell? ⟨g, k, none⟩ = some (nPtr q) := by
     rw [HBEL.out.cell (p := ⟨g, k, none⟩) hgl, hcell k hkp, List.getElem_map, hq]
    have hck2 := zzq HCK k hlt; have HC := qh (HIH.out t.ks[k] hck2.1 wr (AAt.later (fun b _ hl => HBEL.out.block b hl) _ (zzq HKS _ (List.getElem_mem hlt))) (by omega)); have HTK := qh (adss_take t.ks k hlt)
    rw [← hq] at HC; have hki : (k : Int) < (t.ks.length : Int) := by omega
    have hl1 : (p :: Ad.adss (t.ks.take k)).length + (t.ks[k]).ads.length ≤ 90001 := by rw [List.length_cons, Ad.adss_len, Ad.ads_len]; omega
    have hl2 : 0 < (t.ks[k]).ads.length := by rw [Ad.ads_len]; exact cnt_pos _
    generalize (t.ks[k]).ads = xs at HC HTK hl1 hl2
    obtain ⟨ys, hys⟩ : ∃ ys, ys = p :: Ad.adss (t.ks.take k) := ⟨_, rfl⟩; rw [← hys] at HOWN hl1 ⊢; have HYS := qh hys; have hgr : g < wr.heap.size := Nat.lt_of_lt_of_le hgl HBEL.out.size; clear hcell hq hck2 hys hkp
    go_wp2_with fail; refine cm HC.out ?_; rintro e w2 ⟨⟨v, rfl, hown2⟩, hb2⟩
    have HOWN2 : Hid (w2.ownsRow w.heap.size 22 1 (.slice oa ys.length oc) ys.length (ys.map nPtr)) := zx2 (I := fun _ => True) (fun b _ hl => hb2.block b hl) (fun _ _ => trivial) HOWN.out
    obtain ⟨g2, cap2, rfl, hg2, hg2l⟩ := hown2.form hl2; have HNEW := qh hown2; have hz2' : w.heap.size ≤ w2.heap.size := Nat.le_trans HBEL.out.size hb2.size; have HB2 := qh (HBEL.out.trans (hb2.mono HBEL.out.size))
    have HOB := qh (zx6 HOWN2.out); clear hown2 hb2 HC hck HOWN
    go_wp2_with (at_builtin; refine wpList_append_lies _ rfl _ _ 46 rfl w.heap.size 22 i0 (.pointer none) 1 8 Tryz.underlying46 hi0 hz0 hz1 hz2 rfl (by decide) _ _ _ rfl HOWN2.out ⟨g2, 0, none⟩ xs.length cap2 (xs.map nPtr) rfl (by simp) (row_cellsP HNEW.out) (map_oneP xs) hl2 (by unfold maxLen; omega) (by omega) hz2' _ rfl ?_)
    intro g' cap' w3 hown' hgrow hg' _; have HB3 := qh (HB2.out.grown hgrow hz2' (fun b hb => (zzq HOB b hb).2)); have HO3 := qh hown'; clear hown' hgrow hg' HNEW HOWN2; go_wp2_with fail
    go_roundw
    case rel => exact ⟨k + 1, by omega, by go_num, by rw [HTK.out, ← List.cons_append, ← HYS.out, List.length_append, List.map_append]; exact HO3.out, HB3.out⟩
    case measure => simp [intOf]; omega
   ·
    have hkk : k = t.ks.length := by omega
    subst hkk; go_wp2_with fail; go_ret; have h := zzq HOWN; rw [List.take_length] at h; rw [HADS.out]; refine ⟨⟨_, rfl, ?_⟩, HBEL.out⟩
    show wr.ownsRow w.heap.size 22 1 (.slice oa (p :: Ad.adss (t.ks.take t.ks.length)).length oc) _ _
    rw [List.take_length]; exact h
theorem Old.kids_cell {I : Nat → Prop} {w : World} {t : Tr} {p : Nat} (h : Old.NAt I w t p) : ∃ a c, w.cell? ⟨p, 3, none⟩ = some (.slice a t.kids.length c) ∧ p < w.heap.size := by
 obtain ⟨u, ps, hb, hr, hk⟩ := h.opens
 have hl := Old.NAts.length _ _ hk
 obtain ⟨a, c, rfl⟩ := zjj hr
 obtain ⟨_, _, _, c3, _⟩ := zzj hb
 rw [hl] at c3
 exact ⟨a, c, c3, zzz hb⟩
theorem kidsCell' {I : Nat → Prop} {w : World} {a : Ad} (h : AAt I w a) : ∃ ka kc, w.cell? ⟨a.p, 3, none⟩ = some (.slice ka a.ks.length kc) := by
 obtain ⟨_, _, _, _, v, c3, hr, hi⟩ := h.cells
 obtain ⟨ka, kc, hv⟩ := zjj hr
 rw [List.length_map] at hv
 subst hv
 exact ⟨ka, kc, c3⟩
mutual
theorem all_adsN {I : Nat → Prop} {w : World} : ∀ {a : Ad}, AAt I w a → ∀ p ∈ a.ads, Cl w p
 | .mk q kd tx n ks, h => by
  have hq := h.cl; rw [AAt] at h; rw [Ad.ads]; intro p hp
  rcases List.mem_cons.1 hp with rfl | hp
  ·
   exact hq
  ·
   exact all_adssN h.2.2.2 p hp
theorem all_adssN {I : Nat → Prop} {w : World} : ∀ {es : List Ad}, AAts I w es → ∀ p ∈ Ad.adss es, Cl w p
 | [], _ => by rw [Ad.adss]; intro p hp; cases hp
 | a :: es, h => by
  rw [AAts] at h; rw [Ad.adss]; intro p hp
  rcases List.mem_append.1 hp with hp | hp
  ·
   exact all_adsN h.1 p hp
  ·
   exact all_adssN h.2 p hp
end
theorem keepN {w X : World} {b o : Nat} {v : Value} (hb : Below w.heap.size w X) (h : w.cell? ⟨b, o, none⟩ = some v) (hl : b < w.heap.size) : X.cell? ⟨b, o, none⟩ = some v := (hb.cell (p := ⟨b, o, none⟩) hl).trans h
theorem ltN {w : World} {b o : Nat} {v : Value} (h : w.cell? ⟨b, o, none⟩ = some v) : b < w.heap.size := by
 rcases Nat.lt_or_ge b w.heap.size with h1 | h1
 ·
  exact h1
 ·
  have h2 : w.heap[b]? = none := Array.getElem?_eq_none h1; simp [World.cell?, h2] at h
theorem idx_at {l : List Nat} (h : l.Nodup) (k : Nat) (hk : k < l.length) : l.idxOf l[k] = k := by
 have h1 : l = l.take k ++ (l[k] :: l.drop (k + 1)) := by rw [← List.drop_eq_getElem_cons hk, List.take_append_drop]
 have hn : l[k] ∉ l.take k := by
  rw [h1, List.nodup_append] at h; exact fun hm => h.2.2 _ hm _ (List.Mem.head _) rfl
 have h2 : (l.take k ++ (l[k] :: l.drop (k + 1))).idxOf l[k] = k := by
  rw [List.idxOf_append, if_neg hn, List.idxOf_cons_self, List.length_take]; omega
 rw [← h1] at h2
 exact h2
theorem rn_ok (s : ByteArray) (t : Tr) (w : World) (hc : t.count ≤ 1500) (h : Calls Tryz.prog 17 #[.string s] w (BoPost (some t) w)) :
  Calls Tryz.prog 6 #[.string s] w fun e w' => e = .returned (.bool true) ∧ Below w.heap.size w w' := by
 have HC := qh h
 clear h
 go_enter Tryz.func6, Tryz.ntmps6
 go_wp2_with fail
 refine cm HC.out ?_
 rintro e w1 ⟨p, q, rfl, hn, hq, hb1⟩
 obtain ⟨a, ha, hap, hA, hd, _⟩ := NAt.ad _ _ hn
 have hcn := Ad.cnt_tr a
 rw [ha] at hcn
 obtain ⟨qa, qc, hq3, hql⟩ := Old.kids_cell hq
 obtain ⟨ka, kc, hk3⟩ := kidsCell' hA
 have hkl : a.ks.length = t.kids.length := by rw [← ha, a.tr_eq.2.2, List.length_map]
 rw [hkl, hap] at hk3
 have hpl := ltN hk3
 have hall := all_adsN hA
 have HALL := qh hall
 have HD := qh hd
 have HN := qh (number_any a w1 hA hd (by omega))
 have HAL : Hid (∀ W, Below w1.heap.size w1 W → Calls Tryz.prog 25 #[nPtr a.p] W fun e w' => (∃ v, e = .returned v ∧ w'.ownsRow W.heap.size 22 1 v a.ads.length (a.ads.map nPtr)) ∧ Below W.heap.size W w') := fun W hW => allA_any a.cnt a qv W (AAt.later (fun b _ hl => hW.block b hl) _ hA) (by omega)
 have hal : a.ads.length ≤ 1500 := by rw [Ad.ads_len]; omega
 rw [hap] at HN HAL
 obtain ⟨A, hAe⟩ : ∃ A, A = a.ads := ⟨_, rfl⟩
 rw [← hAe] at HN HAL HALL HD hal
 have HB1 := qh hb1
 have HQ3 := qh hq3
 have HK3 := qh hk3
 generalize t.kids.length = kl at HQ3 HK3
 clear HC hn hq hb1 hA hd hcn hq3 hk3 hkl hall ha hap hAe hc
 go_wp2_with fail
 refine cm HN.out ?_
 rintro e w2 ⟨⟨mb, rfl, hmb, hm2⟩, hb2⟩
 have HB2 := qh hb2
 have HM2 := qh hm2
 have HC := qh (zzq HAL w2 hb2)
 clear HN HAL hb2 hm2
 go_wp2_with fail
 refine cm HC.out ?_
 rintro e w3 ⟨⟨v, rfl, hr3⟩, hb3⟩
 obtain ⟨va, vc, rfl⟩ := zjj hr3
 have HR3 := qh hr3
 have hb13 : Below w1.heap.size w1 w3 := HB2.out.trans (hb3.mono HB2.out.size)
 have HB13 := qh hb13
 have HM3 : Hid (w3.heap[mb]? = some (.map (mapP (nodL A)) A.length)) := by
  show _ = _
  rw [hb3.block mb (zzz HM2.out)]; exact zzq HM2
 have e3 := keepN hb13 HQ3.out (ltN HQ3.out)
 have k3 := keepN hb13 HK3.out (ltN HK3.out)
 have hpl3 := ltN k3
 have hql3 := ltN e3
 have hlen : (Builtin.len_ #[44] 3 #[.map (some mb)]).run Tryz.prog w3.drew = .ok (.int .i64 (A.length : Int)) w3.drew := by
  simp [Builtin.len_, getObj, Sem.run, show w3.drew.heap[mb]? = _ from HM3.out, len_ptr, zn2, goInt]
 have HW3 : Hid (Below w.heap.size w w3) := HB1.out.trans (hb13.mono HB1.out.size)
 clear HC hr3 hb3 hb13 HM2
 go_wp2_with fail
 refine wp_region_held (S := fun X => X = w3.drew) (by kernel_rfl) ?_
 change wpAnyH _ _ _ _ _ _ _ _ (World.drew _)
 refine wh 0 (nPtr p) rfl ?_
 refine wh 1 (.bool false) rfl ?_
 refine wh 2 (.bool false) rfl ?_
 refine wh 3 (nPtr q) rfl ?_
 refine wh 4 (nPtr q) rfl ?_
 refine wh 5 (.pointer (some ⟨q, 3, none⟩)) rfl ?_
 refine wh 6 (.slice qa kl qc) rfl ?_ (hy := Or.inl ⟨by kernel_rfl, fun X hX => by cases hX; go_simp⟩)
 refine wh 7 (.int .i64 (kl : Int)) rfl ?_
 refine wh 8 (nPtr p) rfl ?_
 refine wh 9 (nPtr p) rfl ?_
 refine wh 10 (.pointer (some ⟨p, 3, none⟩)) rfl ?_
 refine wh 11 (.slice ka kl kc) rfl ?_ (hy := Or.inl ⟨by kernel_rfl, fun X hX => by cases hX; go_simp⟩)
 refine wh 12 (.int .i64 (kl : Int)) rfl ?_
 refine wh 13 (.bool false) rfl ?_
 refine wh 14 (.bool false) rfl ?_
 refine wh 15 (.bool false) rfl ?_
 refine wh 16 (.map (some mb)) rfl ?_
 refine wh 17 (.int .i64 (A.length : Int)) rfl ?_ (hy := Or.inl ⟨by kernel_rfl, fun X hX => by cases hX; go_simp⟩)
 refine wh 18 (.slice va A.length vc) rfl ?_
 refine wh 19 (.int .i64 (A.length : Int)) rfl ?_
 refine wh 20 (.bool false) rfl ?_
 refine wh 21 (.bool false) rfl ?_
 refine wpAnyH_done (by kernel_rfl) ?_ _
 go_simp
 obtain ⟨w4, hw4⟩ : ∃ w4, w4 = w3.drew := ⟨_, rfl⟩
 rw [← hw4]
 have hb4 : Below w3.heap.size w3 w4 := by rw [hw4]; exact qb.drew
 have HB4 : Hid (Below w.heap.size w w4) := HW3.out.trans (hb4.mono HW3.out.size)
 have HR4 : Hid (w4.ownsRow w2.heap.size 22 1 (.slice va A.length vc) A.length (A.map nPtr)) := zx2 (I := fun _ => True) (fun b _ hl => hb4.block b hl) (fun _ _ => trivial) HR3.out
 have HLK : Hid (∀ k (hk : k < A.length), (Instr.lookup 44 (.map (some mb)) (nPtr A[k]) false).run Tryz.prog w4 = .ok (.int .i64 (k : Int)) w4) := fun k hk => by
  have hcl : ∀ x ∈ A, Cl w4 x := fun x hx => by
   obtain ⟨cs, ty, hcs⟩ := zzq HALL x hx; have hx1 := zzz hcs; exact ⟨cs, ty, by rw [hb4.block x (Nat.lt_of_lt_of_le hx1 HB13.out.size), HB13.out.block x hx1]; exact hcs⟩
  have h1 := lookup_ptr mb A.length (nodL A) A[k] w4 (by rw [hb4.block mb (zzz HM3.out)]; exact HM3.out) (hcl _ (List.getElem_mem hk)) (fun e he => hcl _ (nodL_mem he))
  rw [nodL_find (List.getElem_mem hk), idx_at HD.out k hk] at h1; exact h1
 clear hw4 hb4 hlen e3 k3 hpl3 hql3 HR3 HM3 HB13 HW3 HALL HQ3 HK3 HD HB1 HB2
 go_wp2_with fail
 go_loopw [8] (fun i wr => wr = w4 ∧ ∃ k : Nat, k ≤ A.length ∧ i = .int .i64 k) (fun i _ => A.length - (intOf i).toNat)
 case atStart => exact ⟨rfl, 0, Nat.zero_le _, rfl⟩
 case round =>
  obtain ⟨rfl, k, hk, rfl⟩ := hrel
  by_cases hlt : k < A.length
  ·
   obtain ⟨g, cap, hg, hcell⟩ := zv2 HR4.out (by omega); simp only [Value.slice.injEq] at hg; obtain ⟨rfl, hxx, rfl⟩ := hg; clear hxx; have hck := hcell k hlt; have hgl := (zx6 HR4.out g rfl).1
   have hlk := zzq HLK k hlt
   generalize A[k] = x at hck hlk
   have hki : (k : Int) < (A.length : Int) := by omega
   clear hcell; go_wp2_with fail
   go_roundw
   case rel => exact ⟨trivial, k + 1, by omega, by go_num⟩
   case measure => simp [intOf]; omega
  ·
   have hkk : k = A.length := by omega
   subst hkk; go_wp2_with fail; go_ret; exact ⟨rfl, HB4.out⟩
theorem rn_no (s : ByteArray) (w : World) (h : Calls Tryz.prog 17 #[.string s] w (BoPost none w)) :
  Calls Tryz.prog 6 #[.string s] w fun e w' => e = .returned (.bool true) ∧ Below w.heap.size w w' := by
 have HC := qh h
 clear h
 go_enter Tryz.func6, Tryz.ntmps6
 go_wp2_with fail
 refine cm HC.out ?_
 rintro e w1 ⟨rfl, hb1⟩
 have HB1 := qh hb1
 clear HC hb1
 go_wp2_with fail
 go_ret
 exact ⟨rfl, HB1.out⟩
theorem rn_any (ws gs : List ByteArray) (s : ByteArray) (w : World) (hL : Lists ws gs w) (hT : Tabs w) (hR : RefLists ws w) (hg : gs = signsS) (hws : ∀ x ∈ ws, sgP 2 x = none) :
  Calls Tryz.prog 6 #[.string s] w fun e w' => e = .returned (.bool true) ∧ Below w.heap.size w w' := by
 have h := both_any ws gs s w hL hT hR hg hws
 cases hb : bothS ws s with
 | none => rw [hb] at h; exact rn_no s w h
 | some t =>
  rw [hb] at h; exact rn_ok s t w (bothS_count hg hws hb).1 h
end Go.Proofs.YtoimgcjbcbhclaaGreatDoor
