/-
  The document's Free: its function literal.
-/
import Derived.Test.YtodmgaikhbmlnaaGreatDoorHf35
set_option maxRecDepth 100000
set_option maxHeartbeats 16000000
namespace Go.Proofs.YtodmgaikhbmlnaaGreatDoor
open Go.RowKit
theorem en78 : ∀ args W, (callFunc 78 args).run Tryz.prog W = .ok (.enter 78 args) W := fun _ _ => by kernel_rfl
abbrev wkV (bG bW : Nat) : Value := .func (.func 78) #[] #[.pointer (some ⟨bG, 0, none⟩), .pointer (some ⟨bW, 0, none⟩)]
structure RfSt (bG bW m : Nat) (ks : List ByteArray) (w : World) : Prop where
 hG : w.heap[bG]? = some (.cells #[.map (some m)] 103 (0, 0))
 hW : w.heap[bW]? = some (.cells #[wkV bG bW] 104 (0, 0))
 fm : FMap m ks w
 gm : bG ≠ m
 wm : bW ≠ m
theorem RfSt.later {bG bW m : Nat} {ks : List ByteArray} {w X : World} (h : RfSt bG bW m ks w) (hb : Below w.heap.size w X) : RfSt bG bW m ks X :=
 ⟨(hb.block bG (lt_of_heap h.hG)).trans h.hG, (hb.block bW (lt_of_heap h.hW)).trans h.hW, ⟨(hb.block m (lt_of_heap h.fm.1)).trans h.fm.1, h.fm.2⟩, h.gm, h.wm⟩
def decR (t : Tr) : List ByteArray × Tr :=
 if t.kd = 1 then (namesT t true, t)
 else if t.kd = 6 then (namesT t false, t)
 else if t.kd = 13 then ([t.tx], t)
 else if t.kd = 5 ∨ t.kd = 37 then (namesT (kidF t 1) true ++ (onceL ((kidF t 0).kids.map Tr.tx) ++ [tArgF] ++ (if t.kd = 37 then [t.tx] else [])), kidF t 1)
 else ([], t)
def ownR (t : Tr) (kn : List ByteArray) : List ByteArray := if t.kd = 23 ∧ hasB kn t.tx = false then [t.tx] else []
def rlF : Nat → Tr → List ByteArray → List ByteArray
 | 0, _, _ => []
 | d + 1, t, kn => ownR t kn ++ (decR t).2.kids.flatMap fun k => rlF d k ((decR t).1 ++ kn)
def RwAt (bG bW m d : Nat) : Prop := ∀ (t : Tr), t.count ≤ d → t.ill = 0 → ∀ (p : Nat) (kn : List ByteArray) (kv : Value) (ks : List ByteArray) (w : World), NAt (fun x => x ≠ m) w t p → RfSt bG bW m ks w → SRow 0 w kv kn → kv.ownBlock ≠ some m → t.count ≤ 1500 → kn.length + 6100 * t.count ≤ 50000000 →
  Calls Tryz.prog 78 #[nPtr p, kv, .pointer (some ⟨bG, 0, none⟩), .pointer (some ⟨bW, 0, none⟩)] w fun e w' => e = .returned (.tuple #[]) ∧ RfSt bG bW m ((rlF d t kn).foldl addB ks) w' ∧ Ap m w.heap.size w w'
theorem nat_ap {m : Nat} {a b : World} {t : Tr} {p : Nat} (h : NAt (fun x => x ≠ m) a t p) (ha : Ap m a.heap.size a b) : NAt (fun x => x ≠ m) b t p := NAt.later (fun x hx hl => ha.block x hl hx) _ _ h
theorem srow_ap {m B : Nat} {a b : World} {v : Value} {l : List ByteArray} (h : SRow B a v l) (hn : v.ownBlock ≠ some m) (ha : Ap m a.heap.size a b) : SRow B b v l := owns_stay (I := fun x => x ≠ m) (fun x hx hl => ha.block x hl hx) (fun g hg e => hn (by rw [← e]; exact hg)) h
theorem RfSt.ap {bG bW m : Nat} {ks ks' : List ByteArray} {w X : World} (h : RfSt bG bW m ks w) (ha : Ap m w.heap.size w X) (hf : FMap m ks' X) : RfSt bG bW m ks' X :=
 ⟨(ha.block bG (lt_of_heap h.hG) h.gm).trans h.hG, (ha.block bW (lt_of_heap h.hW) h.wm).trans h.hW, hf, h.gm, h.wm⟩
section
variable {bG bW m d : Nat} (ih : RwAt bG bW m d) (t : Tr) (ht : t.count ≤ d + 1) (hill : t.ill = 0) (p : Nat) (kn : List ByteArray) (kv : Value) (ks : List ByteArray) (w : World) (hnt : NAt (fun x => x ≠ m) w t p) (hS : RfSt bG bW m ks w) (hk : SRow 0 w kv kn) (hkm : kv.ownBlock ≠ some m) (hc : t.count ≤ 1500) (hkl : kn.length + 6100 * t.count ≤ 50000000)
include ih ht hill hnt hS hk hkm hc hkl
theorem rw23a (hkd : t.kd = 23) (hh : hasB kn t.tx = true) : Calls Tryz.prog 78 #[nPtr p, kv, .pointer (some ⟨bG, 0, none⟩), .pointer (some ⟨bW, 0, none⟩)] w fun e w' => e = .returned (.tuple #[]) ∧ RfSt bG bW m ((rlF (d + 1) t kn).foldl addB ks) w' ∧ Ap m w.heap.size w w' := by
 obtain ⟨i0, hi0, hz0, hz1, hz2⟩ := info_parts info9
 obtain ⟨hneed, hills⟩ := ill_of t hill
 have htc : t.count = 1 + Tr.counts t.kids := by cases t with | mk kd tx nn ks => exact count_mk _ _ _ _
 have htk : t.kids.length ≤ 1500 := by have := counts_len t.kids; omega
 obtain ⟨u0, ps0, hblk, hrow0, hri0, hks0⟩ := hnt.opens2
 have hlen0 := NAts.length _ _ hks0
 obtain ⟨ua, uc, hu⟩ := row_shut hrow0
 subst hu
 obtain ⟨c0, c1, _, c3, _⟩ := node_cells hblk
 rw [hlen0] at c3
 have hpl := lt_of_heap hblk
 obtain ⟨ka, kc, rfl⟩ := srow_form hk
 have hmw := lt_of_heap hS.fm.1
 have HS := hide hS
 have HK := hide hk
 have HKM := hide hkm
 have HNT := hide hnt
 have HNTR := hide (NAt.nt hnt)
 have HIH := hide ih
 have HKL := hide hkl
 have hknl : kn.length ≤ 50000000 := by omega
 have hen := en78
 have hdec : decR t = ([], t) := by unfold decR; rw [hkd]; rfl
 rw [hkd] at c0
 have HRL : Hid ((rlF (d + 1) t kn).foldl addB ks = (t.kids.flatMap fun x => rlF d x kn).foldl addB ks) := by
  show _ = _
  rw [rlF, hdec, ownR, if_neg (fun h => by rw [hh] at h; exact absurd h.2 (by decide))]
  rfl
 have HC := hide (rhas_big kn t.tx _ w hk (by omega))
 rw [hh] at HC
 have HROW0 := hide hrow0
 have HRI0 := hide hri0
 have HKS0 := hide hks0
 have HLEN0 := hide hlen0
 have HKID : Hid (∀ k ∈ t.kids, k.count < t.count ∧ k.ill = 0) := fun k hk => by
  exact zbch
 generalize t.tx = tx at c1 HC
 clear hdec hkd hh
 exact zbak
theorem rw23b (hkd : t.kd = 23) (hh : hasB kn t.tx = false) : Calls Tryz.prog 78 #[nPtr p, kv, .pointer (some ⟨bG, 0, none⟩), .pointer (some ⟨bW, 0, none⟩)] w fun e w' => e = .returned (.tuple #[]) ∧ RfSt bG bW m ((rlF (d + 1) t kn).foldl addB ks) w' ∧ Ap m w.heap.size w w' := by
 obtain ⟨i0, hi0, hz0, hz1, hz2⟩ := info_parts info9
 obtain ⟨hneed, hills⟩ := ill_of t hill
 have htc : t.count = 1 + Tr.counts t.kids := by cases t with | mk kd tx nn ks => exact count_mk _ _ _ _
 have htk : t.kids.length ≤ 1500 := by have := counts_len t.kids; omega
 obtain ⟨u0, ps0, hblk, hrow0, hri0, hks0⟩ := hnt.opens2
 have hlen0 := NAts.length _ _ hks0
 obtain ⟨ua, uc, hu⟩ := row_shut hrow0
 subst hu
 obtain ⟨c0, c1, _, c3, _⟩ := node_cells hblk
 rw [hlen0] at c3
 have hpl := lt_of_heap hblk
 obtain ⟨ka, kc, rfl⟩ := srow_form hk
 have hmw := lt_of_heap hS.fm.1
 have HS := hide hS
 have HK := hide hk
 have HKM := hide hkm
 have HNT := hide hnt
 have HNTR := hide (NAt.nt hnt)
 have HIH := hide ih
 have HKL := hide hkl
 have hknl : kn.length ≤ 50000000 := by omega
 have hen := en78
 have hdec : decR t = ([], t) := by unfold decR; rw [hkd]; rfl
 rw [hkd] at c0
 have HRL : Hid ((rlF (d + 1) t kn).foldl addB ks = (t.kids.flatMap fun x => rlF d x kn).foldl addB (addB ks t.tx)) := by
  show _ = _
  rw [rlF, hdec, ownR, if_pos ⟨hkd, hh⟩]; rfl
 have HC := hide (rhas_big kn t.tx _ w hk (by omega))
 rw [hh] at HC
 have hpm : p ≠ m := by
  exact zbec
 have cG : w.cell? ⟨bG, 0, none⟩ = some (.map (some m)) := by rw [cell_of hS.hG]; rfl
 have hlG := cellR cG
 have hgm := hS.gm
 have HROW0 := hide hrow0
 have HRI0 := hide hri0
 have HKS0 := hide hks0
 have HLEN0 := hide hlen0
 have HKID : Hid (∀ k ∈ t.kids, k.count < t.count ∧ k.ill = 0) := fun k hk => by
  exact zbch
 obtain ⟨W2, hup, hm2, hs2, ho2, o1, o2, o3⟩ := FMap.put (W := w.drew) hS.fm t.tx
 obtain ⟨ks1, hks1⟩ : ∃ ks1, ks1 = addB ks t.tx := ⟨_, rfl⟩
 rw [← hks1] at HRL hm2
 generalize t.tx = tx at c1 HC hup
 have d1 : W2.cell? ⟨p, 1, none⟩ = some (.string tx) := (World.cell?_of_block (w := w) (a := ⟨p, 1, none⟩) (ho2 p hpm)).trans c1
 have dG : W2.cell? ⟨bG, 0, none⟩ = some (.map (some m)) := (World.cell?_of_block (w := w) (a := ⟨bG, 0, none⟩) (ho2 bG hgm)).trans cG
 have HA2 : Hid (Ap m w.heap.size w W2) := (Ap.refl m w.heap.size w).drew.put hs2 ho2 o1 o2 o3
 have HM2 := hide hm2
 clear hdec hkd hh hks1 hm2 hs2 ho2 o1 o2 o3
 clear ih hill hnt hS hk hkm hkl hneed hills hblk hrow0 hri0 hks0 hlen0
 go_enter Tryz.func78, Tryz.ntmps78
 go_wp2_with fail
 refine cm HC.out ?_
 rintro e w1 ⟨rfl, rfl⟩
 clear HC
 go_wp2_with fail
 refine wp_region_held (S := fun X => X.cell? ⟨bG, 0, none⟩ = some (.map (some m)) ∧ X.cell? ⟨p, 1, none⟩ = some (.string tx)) (by kernel_rfl) ?_
 change wpAnyH _ _ _ _ _ _ _ _ (World.drew _)
 refine wh 0 (.map (some m)) ⟨cG, c1⟩ ?_ (hy := Or.inl ⟨by kernel_rfl, fun X hX => by have hh := hX.1; go_simp⟩)
 refine wh 1 (nPtr p) ⟨cG, c1⟩ ?_
 refine wh 2 (nPtr p) ⟨cG, c1⟩ ?_
 refine wh 3 (.pointer (some ⟨p, 1, none⟩)) ⟨cG, c1⟩ ?_
 refine wh 4 (.string tx) ⟨cG, c1⟩ ?_ (hy := Or.inl ⟨by kernel_rfl, fun X hX => by have hh := hX.2; go_simp⟩)
 refine wq1 5 fun K hK => ?_
 go_simp
 refine hK.out _ _ ⟨dG, d1⟩ (fun _ => ?_)
 clear hK K
 refine wpAnyH_done (by kernel_rfl) ?_ _
 go_simp
 obtain ⟨W1, hW1⟩ : ∃ W1, W1 = W2 := ⟨_, rfl⟩
 have HA1 : Hid (Ap m w1.heap.size w1 W1) := by rw [hW1]; exact unhide HA2
 have HS1 : Hid (RfSt bG bW m ks1 W1) := HS.out.ap HA1.out (by rw [hW1]; exact HM2.out)
 have HKN : Hid (SRow 0 W1 (.slice ka kn.length kc) kn) := srow_ap HK.out HKM.out HA1.out
 have HKNM := HKM
 have HKNL : Hid (∀ k : Tr, k.count < t.count → kn.length + 6100 * k.count ≤ 50000000) := fun k hk => by have := unhide HKL; omega
 clear c0 c1 c3 cG dG d1 hup hlG
 have HROW : Hid (W1.ownsRow 0 22 1 (.slice ua ps0.length uc) ps0.length (ps0.map nPtr)) := owns_stay (I := fun x => x ≠ m) (fun x hx hl => HA1.out.block x hl hx) HRI0.out HROW0.out
 have HRI := HRI0
 have HKS := hide (NAts.later (I := fun x => x ≠ m) (fun x hx hl => HA1.out.block x hl hx) _ _ HKS0.out)
 have HLEN := HLEN0
 clear HROW0 HRI0 HKS0 HLEN0
 rw [← hW1]
 clear hW1 HA2 HM2
 go_wp2_with fail
 go_loopw [105] (fun j wr => ∃ k : Nat, k ≤ t.kids.length ∧ j = .int .i64 k ∧ RfSt bG bW m (((t.kids.take k).flatMap fun x => rlF d x kn).foldl addB ks1) wr ∧ Ap m W1.heap.size W1 wr) (fun j _ => t.kids.length - (intOf j).toNat)
 case atStart => exact ⟨0, Nat.zero_le _, rfl, by simpa using HS1.out, Ap.refl _ _ _⟩
 case round =>
  obtain ⟨k, hk, rfl, hst, hap⟩ := hrel; have HST := hide hst; have HAP := hide hap; clear hst hap
  by_cases hlt : k < t.kids.length
  ·
   have hr0 := unhide HROW; obtain ⟨g, cap, hv, hcell⟩ := row_open hr0 (by rw [HLEN.out]; omega)
   simp only [Value.slice.injEq] at hv; obtain ⟨rfl, _, rfl⟩ := hv; obtain ⟨hkp, hnk⟩ := NAts.get _ _ HKS.out k hlt; have hgm : g ≠ m := unhide HRI g rfl; have hck : wr.cell? ⟨g, k, none⟩ = some (nPtr ps0[k]) := by
    exact zcbi
   have hgr := cellR hck; have hnk2 : NAt (fun x => x ≠ m) wr t.kids[k] ps0[k] := nat_ap hnk HAP.out; have cW : wr.cell? ⟨bW, 0, none⟩ = some (wkV bG bW) := by rw [cell_of HST.out.hW]; rfl
   have hlW := cellR cW; have hki : (k : Int) < (t.kids.length : Int) := by omega
   obtain ⟨hk1, hk2⟩ := unhide HKID t.kids[k] (List.getElem_mem _)
   have HTK : Hid (((t.kids.take (k + 1)).flatMap (fun x => rlF d x kn)).foldl addB ks1 = (rlF d t.kids[k] kn).foldl addB (((t.kids.take k).flatMap (fun x => rlF d x kn)).foldl addB ks1)) := by
    exact zcbf
   exact zdag
  ·
   have hkk : k = t.kids.length := by omega
   exact zcav
theorem rwE (hno : t.kd ≠ 23 ∧ t.kd ≠ 1 ∧ t.kd ≠ 6 ∧ t.kd ≠ 13 ∧ t.kd ≠ 5 ∧ t.kd ≠ 37) : Calls Tryz.prog 78 #[nPtr p, kv, .pointer (some ⟨bG, 0, none⟩), .pointer (some ⟨bW, 0, none⟩)] w fun e w' => e = .returned (.tuple #[]) ∧ RfSt bG bW m ((rlF (d + 1) t kn).foldl addB ks) w' ∧ Ap m w.heap.size w w' := by
 obtain ⟨i0, hi0, hz0, hz1, hz2⟩ := info_parts info9
 obtain ⟨hneed, hills⟩ := ill_of t hill
 have htc : t.count = 1 + Tr.counts t.kids := by cases t with | mk kd tx nn ks => exact count_mk _ _ _ _
 have htk : t.kids.length ≤ 1500 := by have := counts_len t.kids; omega
 obtain ⟨u0, ps0, hblk, hrow0, hri0, hks0⟩ := hnt.opens2
 have hlen0 := NAts.length _ _ hks0
 obtain ⟨ua, uc, hu⟩ := row_shut hrow0
 subst hu
 obtain ⟨c0, c1, _, c3, _⟩ := node_cells hblk
 rw [hlen0] at c3
 have hpl := lt_of_heap hblk
 obtain ⟨ka, kc, rfl⟩ := srow_form hk
 have hmw := lt_of_heap hS.fm.1
 have HS := hide hS
 have HK := hide hk
 have HKM := hide hkm
 have HNT := hide hnt
 have HNTR := hide (NAt.nt hnt)
 have HIH := hide ih
 have HKL := hide hkl
 have hknl : kn.length ≤ 50000000 := by omega
 have hen := en78
 have hdec : decR t = ([], t) := by unfold decR; rw [if_neg hno.2.1, if_neg hno.2.2.1, if_neg hno.2.2.2.1, if_neg (fun h => h.elim hno.2.2.2.2.1 hno.2.2.2.2.2)]
 have HRL : Hid ((rlF (d + 1) t kn).foldl addB ks = (t.kids.flatMap fun x => rlF d x kn).foldl addB ks) := by
  show _ = _
  rw [rlF, hdec, ownR, if_neg (fun h => hno.1 h.1)]; rfl
 have hif : isFunT t = false := by
  unfold isFunT; have h5 : (t.kd == 5) = false := by simpa using hno.2.2.2.2.1
  have h37 : (t.kd == 37) = false := by simpa using hno.2.2.2.2.2
  rw [h5, h37]; rfl
 have HC := hide (risFunc_any t p w (NAt.nt hnt))
 rw [hif] at HC
 have HROW0 := hide hrow0
 have HRI0 := hide hri0
 have HKS0 := hide hks0
 have HLEN0 := hide hlen0
 have HKID : Hid (∀ k ∈ t.kids, k.count < t.count ∧ k.ill = 0) := fun k hk => by
  exact zbch
 generalize t.kd = kd at c0 hno
 obtain ⟨n23, n1, n6, n13, n5, n37⟩ := hno
 have m23 : (kd == 23) = false := by simpa using n23
 have m1 : (kd == 1) = false := by simpa using n1
 have m6 : (kd == 6) = false := by simpa using n6
 have m13 : (kd == 13) = false := by simpa using n13
 clear hdec hif n23 n1 n6 n13 n5 n37
 exact zbak
theorem rw1 (hkd : t.kd = 1) : Calls Tryz.prog 78 #[nPtr p, kv, .pointer (some ⟨bG, 0, none⟩), .pointer (some ⟨bW, 0, none⟩)] w fun e w' => e = .returned (.tuple #[]) ∧ RfSt bG bW m ((rlF (d + 1) t kn).foldl addB ks) w' ∧ Ap m w.heap.size w w' := by
 obtain ⟨i0, hi0, hz0, hz1, hz2⟩ := info_parts info9
 obtain ⟨hneed, hills⟩ := ill_of t hill
 have htc : t.count = 1 + Tr.counts t.kids := by cases t with | mk kd tx nn ks => exact count_mk _ _ _ _
 have htk : t.kids.length ≤ 1500 := by have := counts_len t.kids; omega
 obtain ⟨u0, ps0, hblk, hrow0, hri0, hks0⟩ := hnt.opens2
 have hlen0 := NAts.length _ _ hks0
 obtain ⟨ua, uc, hu⟩ := row_shut hrow0
 subst hu
 obtain ⟨c0, c1, _, c3, _⟩ := node_cells hblk
 rw [hlen0] at c3
 have hpl := lt_of_heap hblk
 obtain ⟨ka, kc, rfl⟩ := srow_form hk
 have hmw := lt_of_heap hS.fm.1
 have HS := hide hS
 have HK := hide hk
 have HKM := hide hkm
 have HNT := hide hnt
 have HNTR := hide (NAt.nt hnt)
 have HIH := hide ih
 have HKL := hide hkl
 have hknl : kn.length ≤ 50000000 := by omega
 have hen := en78
 have hdec : decR t = (namesT t true, t) := by unfold decR; rw [hkd]; rfl
 rw [hkd] at c0
 have hnl := namesF_len t true
 obtain ⟨NS, hNS⟩ : ∃ NS, NS = namesT t true := ⟨_, rfl⟩
 obtain ⟨KN, hKN⟩ : ∃ KN, KN = NS ++ kn := ⟨_, rfl⟩
 have HRL : Hid ((rlF (d + 1) t kn).foldl addB ks = (t.kids.flatMap fun x => rlF d x KN).foldl addB ks) := by
  show _ = _
  rw [rlF, hdec, ownR, if_neg (fun h => by rw [hkd] at h; exact absurd h.1 (by decide)), hKN, hNS]
  rfl
 have HC := hide (rnames_any t p true w (NAt.nt hnt) (by omega))
 exact zcac
theorem rw6 (hkd : t.kd = 6) : Calls Tryz.prog 78 #[nPtr p, kv, .pointer (some ⟨bG, 0, none⟩), .pointer (some ⟨bW, 0, none⟩)] w fun e w' => e = .returned (.tuple #[]) ∧ RfSt bG bW m ((rlF (d + 1) t kn).foldl addB ks) w' ∧ Ap m w.heap.size w w' := by
 obtain ⟨i0, hi0, hz0, hz1, hz2⟩ := info_parts info9
 obtain ⟨hneed, hills⟩ := ill_of t hill
 have htc : t.count = 1 + Tr.counts t.kids := by cases t with | mk kd tx nn ks => exact count_mk _ _ _ _
 have htk : t.kids.length ≤ 1500 := by have := counts_len t.kids; omega
 obtain ⟨u0, ps0, hblk, hrow0, hri0, hks0⟩ := hnt.opens2
 have hlen0 := NAts.length _ _ hks0
 obtain ⟨ua, uc, hu⟩ := row_shut hrow0
 subst hu
 obtain ⟨c0, c1, _, c3, _⟩ := node_cells hblk
 rw [hlen0] at c3
 have hpl := lt_of_heap hblk
 obtain ⟨ka, kc, rfl⟩ := srow_form hk
 have hmw := lt_of_heap hS.fm.1
 have HS := hide hS
 have HK := hide hk
 have HKM := hide hkm
 have HNT := hide hnt
 have HNTR := hide (NAt.nt hnt)
 have HIH := hide ih
 have HKL := hide hkl
 have hknl : kn.length ≤ 50000000 := by omega
 have hen := en78
 have hdec : decR t = (namesT t false, t) := by unfold decR; rw [hkd]; rfl
 rw [hkd] at c0
 have hnl := namesF_len t false
 obtain ⟨NS, hNS⟩ : ∃ NS, NS = namesT t false := ⟨_, rfl⟩
 obtain ⟨KN, hKN⟩ : ∃ KN, KN = NS ++ kn := ⟨_, rfl⟩
 have HRL : Hid ((rlF (d + 1) t kn).foldl addB ks = (t.kids.flatMap fun x => rlF d x KN).foldl addB ks) := by
  show _ = _
  rw [rlF, hdec, ownR, if_neg (fun h => by rw [hkd] at h; exact absurd h.1 (by decide)), hKN, hNS]
  rfl
 have HC := hide (rnames_any t p false w (NAt.nt hnt) (by omega))
 exact zcac
end
section
variable {bG bW m d : Nat} (ih : RwAt bG bW m d) (t : Tr) (ht : t.count ≤ d + 1) (hill : t.ill = 0) (p : Nat) (kn : List ByteArray) (kv : Value) (ks : List ByteArray) (w : World) (hnt : NAt (fun x => x ≠ m) w t p) (hS : RfSt bG bW m ks w) (hk : SRow 0 w kv kn) (hkm : kv.ownBlock ≠ some m) (hc : t.count ≤ 1500) (hkl : kn.length + 6100 * t.count ≤ 50000000)
include ih ht hill hnt hS hk hkm hc hkl
theorem rw13 (hkd : t.kd = 13) : Calls Tryz.prog 78 #[nPtr p, kv, .pointer (some ⟨bG, 0, none⟩), .pointer (some ⟨bW, 0, none⟩)] w fun e w' => e = .returned (.tuple #[]) ∧ RfSt bG bW m ((rlF (d + 1) t kn).foldl addB ks) w' ∧ Ap m w.heap.size w w' := by
 obtain ⟨i0, hi0, hz0, hz1, hz2⟩ := info_parts info9
 obtain ⟨hneed, hills⟩ := ill_of t hill
 have htc : t.count = 1 + Tr.counts t.kids := by cases t with | mk kd tx nn ks => exact count_mk _ _ _ _
 have htk : t.kids.length ≤ 1500 := by have := counts_len t.kids; omega
 obtain ⟨u0, ps0, hblk, hrow0, hri0, hks0⟩ := hnt.opens2
 have hlen0 := NAts.length _ _ hks0
 obtain ⟨ua, uc, hu⟩ := row_shut hrow0
 subst hu
 obtain ⟨c0, c1, _, c3, _⟩ := node_cells hblk
 rw [hlen0] at c3
 have hpl := lt_of_heap hblk
 obtain ⟨ka, kc, rfl⟩ := srow_form hk
 have hmw := lt_of_heap hS.fm.1
 have HS := hide hS
 have HK := hide hk
 have HKM := hide hkm
 have HNT := hide hnt
 have HNTR := hide (NAt.nt hnt)
 have HIH := hide ih
 have HKL := hide hkl
 have hknl : kn.length ≤ 50000000 := by omega
 have hen := en78
 have hdec : decR t = ([t.tx], t) := by unfold decR; rw [hkd]; rfl
 rw [hkd] at c0
 obtain ⟨KN, hKN⟩ : ∃ KN, KN = [t.tx] ++ kn := ⟨_, rfl⟩
 have HRL : Hid ((rlF (d + 1) t kn).foldl addB ks = (t.kids.flatMap fun x => rlF d x KN).foldl addB ks) := by
  show _ = _
  rw [rlF, hdec, ownR, if_neg (fun h => by rw [hkd] at h; exact absurd h.1 (by decide)), hKN]
  rfl
 have HKNS : Hid (KN.length ≤ kn.length + 6100) := by show _ ≤ _; rw [hKN, List.length_append, List.length_singleton]; omega
 have HKE := hide hKN
 have HROW0 := hide hrow0
 have HRI0 := hide hri0
 have HKS0 := hide hks0
 have HLEN0 := hide hlen0
 have HKID : Hid (∀ k ∈ t.kids, k.count < t.count ∧ k.ill = 0) := fun k hk => by
  exact zbch
 generalize t.tx = tx at c1 HKE hKN
 clear hdec hkd hKN
 clear ih hill hnt hS hk hkm hkl hneed hills hblk hrow0 hri0 hks0 hlen0
 go_enter Tryz.func78, Tryz.ntmps78
 go_wp2_with (at_builtin; refine wpList_app_row rfl _ _ 54 rfl w.heap.size _ 9 i0 (.string ByteArray.empty) 16 Tryz.underlying54 hi0 hz0 hz1 hz2 rfl _ _ _ rfl (World.ownsRow_lit w #[.string tx] 1 (Nat.le_refl _) (by decide) rfl) _ _ _ rfl (HK.out.alloc _) (srow_ones kn) (by unfold maxLen; omega) (by omega) (by simp) ?_)
 intro v4 W1 hown4 hgr4
 have hsr4 : SRow w.heap.size W1 v4 KN := by
  exact zbes
 have hB4 : Below w.heap.size w W1 := ((Below.refl _ _).alloc (Nat.le_refl _) _).grown hgr4 (by simp) (fun k hk => by simp [Value.ownBlock] at hk; omega)
 obtain ⟨KA, KC, rfl⟩ := srow_form hsr4
 have HA1 : Hid (Ap m w.heap.size w W1) := Ap.of hB4
 have HS1 : Hid (RfSt bG bW m ks W1) := HS.out.later hB4
 have HKN : Hid (SRow 0 W1 (.slice KA KN.length KC) KN) := srow_mono hsr4 (Nat.zero_le _)
 have HKNM : Hid ((Value.slice KA KN.length KC).ownBlock ≠ some m) := fun e => absurd (own_lt hsr4 m e).2 (by omega)
 have HKNL : Hid (∀ k : Tr, k.count < t.count → KN.length + 6100 * k.count ≤ 50000000) := fun k hk => by have := unhide HKL; have := unhide HKNS; omega
 clear hown4 hgr4 hsr4 hB4 c0 c1 c3
 exact zbae
theorem rw5 (hkd : t.kd = 5) : Calls Tryz.prog 78 #[nPtr p, kv, .pointer (some ⟨bG, 0, none⟩), .pointer (some ⟨bW, 0, none⟩)] w fun e w' => e = .returned (.tuple #[]) ∧ RfSt bG bW m ((rlF (d + 1) t kn).foldl addB ks) w' ∧ Ap m w.heap.size w w' := by
 obtain ⟨i0, hi0, hz0, hz1, hz2⟩ := info_parts info9
 obtain ⟨hneed, hills⟩ := ill_of t hill
 have htc : t.count = 1 + Tr.counts t.kids := by cases t with | mk kd tx nn ks => exact count_mk _ _ _ _
 have htk : t.kids.length ≤ 1500 := by have := counts_len t.kids; omega
 obtain ⟨u0, ps0, hblk, hrow0, hri0, hks0⟩ := hnt.opens2
 have hlen0 := NAts.length _ _ hks0
 obtain ⟨ua, uc, hu⟩ := row_shut hrow0
 subst hu
 obtain ⟨c0, c1, _, c3, _⟩ := node_cells hblk
 rw [hlen0] at c3
 have hpl := lt_of_heap hblk
 obtain ⟨ka, kc, rfl⟩ := srow_form hk
 have hmw := lt_of_heap hS.fm.1
 have HS := hide hS
 have HK := hide hk
 have HKM := hide hkm
 have HNT := hide hnt
 have HNTR := hide (NAt.nt hnt)
 have HIH := hide ih
 have HKL := hide hkl
 have hknl : kn.length ≤ 50000000 := by omega
 have hen := en78
 have hk2 : 2 ≤ t.kids.length := by rw [hkd] at hneed; exact hneed
 obtain ⟨hkp1, hnk1⟩ := NAts.get _ _ hks0 1 (by omega)
 have hke := kidF_eq t 1 (by omega)
 have hkill : (kidF t 1).ill = 0 := by rw [hke]; exact hills _ (List.getElem_mem _)
 have hkct : (kidF t 1).count < t.count := by rw [hke]; have := counts_le t.kids 1 (by omega); omega
 rw [← hke] at hnk1
 obtain ⟨g0, cap0, hv0, hcell0⟩ := row_open hrow0 (by omega)
 simp only [Value.slice.injEq] at hv0
 obtain ⟨rfl, _, rfl⟩ := hv0
 have cq := hcell0 1 hkp1
 generalize ps0[1] = q1 at cq hnk1
 obtain ⟨u1, ps1, hblk1, hrow1, hri1, hks1⟩ := hnk1.opens2
 have hlen1 := NAts.length _ _ hks1
 obtain ⟨ub, ud, hu1⟩ := row_shut hrow1
 subst hu1
 obtain ⟨_, _, _, d3, _⟩ := node_cells hblk1
 rw [hlen1] at d3
 have hsc : (kidF t 1).count = 1 + Tr.counts (kidF t 1).kids := by cases kidF t 1 with | mk kd tx nn ks => exact count_mk _ _ _ _
 have hsk : (kidF t 1).kids.length ≤ 1500 := by have := counts_len (kidF t 1).kids; omega
 have hp0 : (kidF t 0).kids.length ≤ 1500 := by
  exact zbcw
 have hdec : decR t = (namesT (kidF t 1) true ++ (onceL ((kidF t 0).kids.map Tr.tx) ++ [tArgF] ++ []), kidF t 1) := by unfold decR; rw [hkd]; rfl
 rw [hkd] at c0
 have hif : isFunT t = true := by unfold isFunT; rw [hkd]; rfl
 have HC := hide (risFunc_any t p w (NAt.nt hnt))
 rw [hif] at HC
 have hnl := namesF_len (kidF t 1) true
 obtain ⟨NS, hNS⟩ : ∃ NS, NS = namesT (kidF t 1) true := ⟨_, rfl⟩
 obtain ⟨P, hP⟩ : ∃ P, P = onceL ((kidF t 0).kids.map Tr.tx) := ⟨_, rfl⟩
 have hNSl : NS.length ≤ 4500 := by rw [hNS]; omega
 have hPl : P.length ≤ 1500 := by rw [hP]; have h1 := once_len ((kidF t 0).kids.map Tr.tx); rw [List.length_map] at h1; omega
 obtain ⟨PA, hPA⟩ : ∃ PA, PA = P ++ [tArgF] := ⟨_, rfl⟩
 obtain ⟨K1, hK1⟩ : ∃ K1, K1 = kn := ⟨_, rfl⟩
 obtain ⟨K2, hK2⟩ : ∃ K2, K2 = PA ++ K1 := ⟨_, rfl⟩
 obtain ⟨KN, hKN⟩ : ∃ KN, KN = NS ++ K2 := ⟨_, rfl⟩
 have HRL : Hid ((rlF (d + 1) t kn).foldl addB ks = ((kidF t 1).kids.flatMap fun x => rlF d x KN).foldl addB ks) := by
  have hE : KN = (namesT (kidF t 1) true ++ (onceL ((kidF t 0).kids.map Tr.tx) ++ [tArgF] ++ [])) ++ kn := by rw [hKN, hK2, hK1, hPA, hP, hNS]; simp
  show _ = _
  rw [rlF, hdec, ownR, if_neg (fun h => by rw [hkd] at h; exact absurd h.1 (by decide)), ← hE]
  rfl
 have HPM : Hid (∀ W, Below w.heap.size w W → Calls Tryz.prog 80 #[nPtr p] W fun e w' => (∃ u, e = .returned u ∧ SRow W.heap.size w' u P) ∧ Below W.heap.size W w') := fun W hW => by rw [hP]; exact rparams_any t p W ((NAt.nt hnt).later hW) (by omega) hc
 have HNM : Hid (∀ W, Below w.heap.size w W → Calls Tryz.prog 36 #[nPtr q1, .bool true] W fun e w' => (∃ u, e = .returned u ∧ SRow W.heap.size w' u NS) ∧ Below W.heap.size W w') := fun W hW => by rw [hNS]; exact rnames_any (kidF t 1) q1 true W ((NAt.nt hnk1).later hW) (by omega)
 have hPAl : PA.length = P.length + 1 := by rw [hPA, List.length_append]; rfl
 have hK1l : K1.length ≤ kn.length + 1 := by rw [hK1]; simp
 have hPAe : PA.length ≤ 1501 := by omega
 have hK2l : K2.length ≤ kn.length + 1502 := by rw [hK2, List.length_append]; omega
 have HPAL := hide hPAl
 clear hPAl
 have HKNS : Hid (KN.length ≤ kn.length + 6100) := by show _ ≤ _; rw [hKN, List.length_append]; omega
 have HPA := hide hPA
 have HK1E := hide hK1
 have HK2E := hide hK2
 have HKE := hide hKN
 have HROW0 := hide hrow1
 have HRI0 := hide hri1
 have HKS0 := hide hks1
 have HLEN0 := hide hlen1
 have HKID : Hid (∀ k ∈ (kidF t 1).kids, k.count < t.count ∧ k.ill = 0) := fun k hk => by
  exact zbfc
 generalize t.tx = tx at c1 HK1E hK1 hdec
 clear hdec hif hkd hNS hP hPA hK1 hK2 hKN hnl hke hkill hkct hnk1 hcell0 hblk1 hrow1 hri1 hks1 hlen1 hsc hkp1
 generalize t.kids.length = L at c3 hk2 htk hlen0
 have hL0 : ¬ L = 0 := by omega
 have hL1 : ¬ (L : Int) ≤ 1 := by omega
 clear ih hill hnt hS hk hkm hkl hneed hills hblk hrow0 hri0 hks0 hlen0
 generalize kidF t 1 = S at HRL HKID HKS0 HLEN0 d3 hsk
 clear htc
 have C3 := hide c3
 have CQ := hide cq
 have D3 := hide d3
 go_enter Tryz.func78, Tryz.ntmps78
 go_wp2_with fail
 refine cm HC.out ?_
 rintro e w' ⟨rfl, hw'⟩
 rw [hw']
 clear hw' w' HC
 have HB1 : Hid (Below w.heap.size w w) := Below.refl _ _
 have hk1e := HK1E.out.symm
 subst hk1e
 have HK1 := HK
 have hs01 := HB1.out.size
 go_wp2_with fail
 refine cm (HPM.out w HB1.out) ?_
 rintro e w2 ⟨⟨u2, rfl, hr2⟩, hb2⟩
 obtain ⟨a2, c2, rfl⟩ := srow_form hr2
 have HR2 := hide hr2
 have HBB2 := hide hb2
 have hs12 := hb2.size
 clear hr2 hb2 HPM c0 c1 c3 cq d3
 go_wp2_with (at_builtin; refine wpList_append_lies _ rfl _ _ 54 rfl w.heap.size 9 i0 (.string ByteArray.empty) 1 16 Tryz.underlying54 hi0 hz0 hz1 hz2 rfl (by decide) _ _ _ rfl (HR2.out.alloc _) ⟨w2.heap.size, 0, none⟩ 1 1 [.string tArgF] rfl rfl (hoCellsS w2 tArgF _ rfl) (hoOneS tArgF) (by decide) (by unfold maxLen; omega) (by omega) (by simp; omega) (w2.heap.size + 1) (by simp) ?_)
 intro g3 cap3 w3 hown3 hgr3 _ _
 have HBB3 : Hid (Below w.heap.size w w3) := (HBB2.out.alloc hs12 (.cells #[.string tArgF] 9)).grown hgr3 (by simp; omega) (fun b hb => (own_lt HR2.out b hb).2)
 have HR3 : Hid (SRow w.heap.size w3 (.slice (some ⟨g3, 0, none⟩) PA.length cap3) PA) := by
  show World.ownsRow _ _ _ _ _ _ _
  rw [HPA.out, List.length_append, List.map_append]; exact hown3
 have HK3 := hide (SRow.later HK1.out HBB3.out)
 have hs13 := HBB3.out.size
 rw [← HPAL.out]
 clear hown3 hgr3 HR2 HBB2
 go_wp2_with (at_builtin; refine wpList_app_row rfl _ _ 54 rfl w.heap.size _ 9 i0 (.string ByteArray.empty) 16 Tryz.underlying54 hi0 hz0 hz1 hz2 rfl _ _ _ rfl HR3.out _ _ _ rfl HK3.out (srow_ones kn) (by unfold maxLen; omega) (by omega) HBB3.out.size ?_)
 intro v4 w4 hown4 hgr4
 have hsr4 : SRow w.heap.size w4 v4 K2 := by
  show World.ownsRow _ _ _ _ _ _ _
  rw [HK2E.out, List.length_append, List.map_append]; exact hown4
 have hBB4 : Below w.heap.size w w4 := HBB3.out.grown hgr4 HBB3.out.size (fun k hk => (own_lt HR3.out k hk).2)
 exact zbag
theorem rw37 (hkd : t.kd = 37) : Calls Tryz.prog 78 #[nPtr p, kv, .pointer (some ⟨bG, 0, none⟩), .pointer (some ⟨bW, 0, none⟩)] w fun e w' => e = .returned (.tuple #[]) ∧ RfSt bG bW m ((rlF (d + 1) t kn).foldl addB ks) w' ∧ Ap m w.heap.size w w' := by
 obtain ⟨i0, hi0, hz0, hz1, hz2⟩ := info_parts info9
 obtain ⟨hneed, hills⟩ := ill_of t hill
 have htc : t.count = 1 + Tr.counts t.kids := by cases t with | mk kd tx nn ks => exact count_mk _ _ _ _
 have htk : t.kids.length ≤ 1500 := by have := counts_len t.kids; omega
 obtain ⟨u0, ps0, hblk, hrow0, hri0, hks0⟩ := hnt.opens2
 have hlen0 := NAts.length _ _ hks0
 obtain ⟨ua, uc, hu⟩ := row_shut hrow0
 subst hu
 obtain ⟨c0, c1, _, c3, _⟩ := node_cells hblk
 rw [hlen0] at c3
 have hpl := lt_of_heap hblk
 obtain ⟨ka, kc, rfl⟩ := srow_form hk
 have hmw := lt_of_heap hS.fm.1
 have HS := hide hS
 have HK := hide hk
 have HKM := hide hkm
 have HNT := hide hnt
 have HNTR := hide (NAt.nt hnt)
 have HIH := hide ih
 have HKL := hide hkl
 have hknl : kn.length ≤ 50000000 := by omega
 have hen := en78
 have hk2 : 2 ≤ t.kids.length := by rw [hkd] at hneed; exact hneed
 obtain ⟨hkp1, hnk1⟩ := NAts.get _ _ hks0 1 (by omega)
 have hke := kidF_eq t 1 (by omega)
 have hkill : (kidF t 1).ill = 0 := by rw [hke]; exact hills _ (List.getElem_mem _)
 have hkct : (kidF t 1).count < t.count := by rw [hke]; have := counts_le t.kids 1 (by omega); omega
 rw [← hke] at hnk1
 obtain ⟨g0, cap0, hv0, hcell0⟩ := row_open hrow0 (by omega)
 simp only [Value.slice.injEq] at hv0
 obtain ⟨rfl, _, rfl⟩ := hv0
 have cq := hcell0 1 hkp1
 generalize ps0[1] = q1 at cq hnk1
 obtain ⟨u1, ps1, hblk1, hrow1, hri1, hks1⟩ := hnk1.opens2
 have hlen1 := NAts.length _ _ hks1
 obtain ⟨ub, ud, hu1⟩ := row_shut hrow1
 subst hu1
 obtain ⟨_, _, _, d3, _⟩ := node_cells hblk1
 rw [hlen1] at d3
 have hsc : (kidF t 1).count = 1 + Tr.counts (kidF t 1).kids := by cases kidF t 1 with | mk kd tx nn ks => exact count_mk _ _ _ _
 have hsk : (kidF t 1).kids.length ≤ 1500 := by have := counts_len (kidF t 1).kids; omega
 have hp0 : (kidF t 0).kids.length ≤ 1500 := by
  exact zbcw
 have hdec : decR t = (namesT (kidF t 1) true ++ (onceL ((kidF t 0).kids.map Tr.tx) ++ [tArgF] ++ [t.tx]), kidF t 1) := by unfold decR; rw [hkd]; rfl
 rw [hkd] at c0
 have hif : isFunT t = true := by unfold isFunT; rw [hkd]; rfl
 have HC := hide (risFunc_any t p w (NAt.nt hnt))
 rw [hif] at HC
 have hnl := namesF_len (kidF t 1) true
 obtain ⟨NS, hNS⟩ : ∃ NS, NS = namesT (kidF t 1) true := ⟨_, rfl⟩
 obtain ⟨P, hP⟩ : ∃ P, P = onceL ((kidF t 0).kids.map Tr.tx) := ⟨_, rfl⟩
 have hNSl : NS.length ≤ 4500 := by rw [hNS]; omega
 have hPl : P.length ≤ 1500 := by rw [hP]; have h1 := once_len ((kidF t 0).kids.map Tr.tx); rw [List.length_map] at h1; omega
 obtain ⟨PA, hPA⟩ : ∃ PA, PA = P ++ [tArgF] := ⟨_, rfl⟩
 obtain ⟨K1, hK1⟩ : ∃ K1, K1 = [t.tx] ++ kn := ⟨_, rfl⟩
 obtain ⟨K2, hK2⟩ : ∃ K2, K2 = PA ++ K1 := ⟨_, rfl⟩
 obtain ⟨KN, hKN⟩ : ∃ KN, KN = NS ++ K2 := ⟨_, rfl⟩
 have HRL : Hid ((rlF (d + 1) t kn).foldl addB ks = ((kidF t 1).kids.flatMap fun x => rlF d x KN).foldl addB ks) := by
  have hE : KN = (namesT (kidF t 1) true ++ (onceL ((kidF t 0).kids.map Tr.tx) ++ [tArgF] ++ [t.tx])) ++ kn := by rw [hKN, hK2, hK1, hPA, hP, hNS]; simp
  show _ = _
  rw [rlF, hdec, ownR, if_neg (fun h => by rw [hkd] at h; exact absurd h.1 (by decide)), ← hE]
  rfl
 have HPM : Hid (∀ W, Below w.heap.size w W → Calls Tryz.prog 80 #[nPtr p] W fun e w' => (∃ u, e = .returned u ∧ SRow W.heap.size w' u P) ∧ Below W.heap.size W w') := fun W hW => by rw [hP]; exact rparams_any t p W ((NAt.nt hnt).later hW) (by omega) hc
 have HNM : Hid (∀ W, Below w.heap.size w W → Calls Tryz.prog 36 #[nPtr q1, .bool true] W fun e w' => (∃ u, e = .returned u ∧ SRow W.heap.size w' u NS) ∧ Below W.heap.size W w') := fun W hW => by rw [hNS]; exact rnames_any (kidF t 1) q1 true W ((NAt.nt hnk1).later hW) (by omega)
 have hPAl : PA.length = P.length + 1 := by rw [hPA, List.length_append]; rfl
 have hK1l : K1.length ≤ kn.length + 1 := by rw [hK1]; simp
 have hPAe : PA.length ≤ 1501 := by omega
 have hK2l : K2.length ≤ kn.length + 1502 := by rw [hK2, List.length_append]; omega
 have HPAL := hide hPAl
 clear hPAl
 have HKNS : Hid (KN.length ≤ kn.length + 6100) := by show _ ≤ _; rw [hKN, List.length_append]; omega
 have HPA := hide hPA
 have HK1E := hide hK1
 have HK2E := hide hK2
 have HKE := hide hKN
 have HROW0 := hide hrow1
 have HRI0 := hide hri1
 have HKS0 := hide hks1
 have HLEN0 := hide hlen1
 have HKID : Hid (∀ k ∈ (kidF t 1).kids, k.count < t.count ∧ k.ill = 0) := fun k hk => by
  exact zbfc
 generalize t.tx = tx at c1 HK1E hK1 hdec
 clear hdec hif hkd hNS hP hPA hK1 hK2 hKN hnl hke hkill hkct hnk1 hcell0 hblk1 hrow1 hri1 hks1 hlen1 hsc hkp1
 generalize t.kids.length = L at c3 hk2 htk hlen0
 have hL0 : ¬ L = 0 := by omega
 have hL1 : ¬ (L : Int) ≤ 1 := by omega
 clear ih hill hnt hS hk hkm hkl hneed hills hblk hrow0 hri0 hks0 hlen0
 generalize kidF t 1 = S at HRL HKID HKS0 HLEN0 d3 hsk
 clear htc
 have C3 := hide c3
 have CQ := hide cq
 have D3 := hide d3
 go_enter Tryz.func78, Tryz.ntmps78
 go_wp2_with fail
 refine cm HC.out ?_
 rintro e w' ⟨rfl, hw'⟩
 rw [hw']
 clear hw' w' HC
 go_wp2_with (at_builtin; refine wpList_app_row rfl _ _ 54 rfl w.heap.size _ 9 i0 (.string ByteArray.empty) 16 Tryz.underlying54 hi0 hz0 hz1 hz2 rfl _ _ _ rfl (World.ownsRow_lit w #[.string tx] 1 (Nat.le_refl _) (by decide) rfl) _ _ _ rfl (HK.out.alloc _) (srow_ones kn) (by unfold maxLen; omega) (by omega) (by simp) ?_)
 intro v1 w1 hown1 hgr1
 have hsr1 : SRow w.heap.size w1 v1 K1 := by
  show World.ownsRow _ _ _ _ _ _ _
  rw [HK1E.out, List.length_append, List.map_append]; exact hown1
 have HB1 : Hid (Below w.heap.size w w1) := ((Below.refl _ _).alloc (Nat.le_refl _) _).grown hgr1 (by simp) (fun k hk => by simp [Value.ownBlock] at hk; omega)
 obtain ⟨k1a, k1c, rfl⟩ := srow_form hsr1
 have HK1 := hide (srow_mono hsr1 (Nat.zero_le _))
 clear hown1 hgr1 hsr1
 have hs01 := HB1.out.size
 go_wp2_with fail
 refine cm (HPM.out w1 HB1.out) ?_
 rintro e w2 ⟨⟨u2, rfl, hr2⟩, hb2⟩
 obtain ⟨a2, c2, rfl⟩ := srow_form hr2
 have HR2 := hide hr2
 have HBB2 := hide hb2
 have hs12 := hb2.size
 clear hr2 hb2 HPM c0 c1 c3 cq d3
 go_wp2_with (at_builtin; refine wpList_append_lies _ rfl _ _ 54 rfl w1.heap.size 9 i0 (.string ByteArray.empty) 1 16 Tryz.underlying54 hi0 hz0 hz1 hz2 rfl (by decide) _ _ _ rfl (HR2.out.alloc _) ⟨w2.heap.size, 0, none⟩ 1 1 [.string tArgF] rfl rfl (hoCellsS w2 tArgF _ rfl) (hoOneS tArgF) (by decide) (by unfold maxLen; omega) (by omega) (by simp; omega) (w2.heap.size + 1) (by simp) ?_)
 intro g3 cap3 w3 hown3 hgr3 _ _
 have HBB3 : Hid (Below w1.heap.size w1 w3) := (HBB2.out.alloc hs12 (.cells #[.string tArgF] 9)).grown hgr3 (by simp; omega) (fun b hb => (own_lt HR2.out b hb).2)
 have HR3 : Hid (SRow w1.heap.size w3 (.slice (some ⟨g3, 0, none⟩) PA.length cap3) PA) := by
  show World.ownsRow _ _ _ _ _ _ _
  rw [HPA.out, List.length_append, List.map_append]; exact hown3
 have HK3 := hide (SRow.later HK1.out HBB3.out)
 have hs13 := HBB3.out.size
 rw [← HPAL.out]
 clear hown3 hgr3 HR2 HBB2
 go_wp2_with (at_builtin; refine wpList_app_row rfl _ _ 54 rfl w1.heap.size _ 9 i0 (.string ByteArray.empty) 16 Tryz.underlying54 hi0 hz0 hz1 hz2 rfl _ _ _ rfl HR3.out _ _ _ rfl HK3.out (srow_ones K1) (by unfold maxLen; omega) (by omega) HBB3.out.size ?_)
 intro v4 w4 hown4 hgr4
 have hsr4 : SRow w1.heap.size w4 v4 K2 := by
  show World.ownsRow _ _ _ _ _ _ _
  rw [HK2E.out, List.length_append, List.map_append]; exact hown4
 have hBB4 : Below w1.heap.size w1 w4 := HBB3.out.grown hgr4 HBB3.out.size (fun k hk => (own_lt HR3.out k hk).2)
 exact zbag
end
theorem rwAt_all {bG bW m : Nat} : ∀ d, RwAt bG bW m d
 | 0 => fun t ht => by cases t with | mk kd tx nn ks => rw [count_mk] at ht; omega
 | d + 1 => fun t ht hill p kn kv ks w hnt hS hk hkm hc hkl => by
  have ih : RwAt bG bW m d := rwAt_all d
  by_cases h23 : t.kd = 23
  ·
   cases hh : hasB kn t.tx
   ·
    exact rw23b ih t ht hill p kn kv ks w hnt hS hk hkm hc hkl h23 hh
   ·
    exact rw23a ih t ht hill p kn kv ks w hnt hS hk hkm hc hkl h23 hh
  by_cases h1 : t.kd = 1
  ·
   exact rw1 ih t ht hill p kn kv ks w hnt hS hk hkm hc hkl h1
  by_cases h6 : t.kd = 6
  ·
   exact rw6 ih t ht hill p kn kv ks w hnt hS hk hkm hc hkl h6
  by_cases h13 : t.kd = 13
  ·
   exact rw13 ih t ht hill p kn kv ks w hnt hS hk hkm hc hkl h13
  by_cases h5 : t.kd = 5
  ·
   exact rw5 ih t ht hill p kn kv ks w hnt hS hk hkm hc hkl h5
  by_cases h37 : t.kd = 37
  ·
   exact rw37 ih t ht hill p kn kv ks w hnt hS hk hkm hc hkl h37
  exact rwE ih t ht hill p kn kv ks w hnt hS hk hkm hc hkl ⟨h23, h1, h6, h13, h5, h37⟩
end Go.Proofs.YtodmgaikhbmlnaaGreatDoor
